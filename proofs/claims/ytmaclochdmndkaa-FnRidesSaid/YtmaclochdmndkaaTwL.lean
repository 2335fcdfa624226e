/- Chapter 7: the walk of the law on rides (gen_twl.py). -/
import Derived.Test.YtmaclochdmndkaaTwP
import Derived.Test.YtmaclochdmndkaaTwA
import Derived.Deep.DeepCutAuto
import Derived.RegionTactic
import Derived.Deep.RegionWith
import Derived.Test.YtmaclochdmndkaaHas
import Derived.Test.YtmaclochdmndkaaAny
import Derived.Deep.RegionHeld3
import Derived.Deep.DeepMust
import Derived.WalkLawsBesides
namespace Go.Proofs.Ytmaclochdmndkaa
open Go.RowKit
set_option linter.unusedVariables false

/-- what a ride answers -/
def rideW (x : Option Dv) : List Int × Int × Bool := match x with | none => ([], 0, false) | some d => (d.begins, d.fin, true)
def AnsW (v : List Int × Int × Bool) (w : World) (e : Ending) (w' : World) : Prop := ∃ (A' : Option Addr) (c' : Nat), e = .returned (.tuple #[.slice A' v.1.length c', .int .i64 v.2.1, .bool v.2.2]) ∧ OR w' w.heap.size 3 A' (intV v.1) ∧ Below w.heap.size w w'
theorem rideW_v {b r : Int} {G : List (List Int)} {S : List Sp} {O : List Int} {w : World} {e : Ending} {w' : World} {v : List Int × Int × Bool} (hv : rideW (rideT b r G S O) = v) (h : RideA b r G S O w e w') : AnsW v w e w' := by
  subst hv
  obtain ⟨⟨h1, rfl⟩ | ⟨d, A', c', h1, h2, h3, rfl⟩, hb⟩ := h
  · rw [h1]; exact ⟨none, 0, rfl, .inl rfl, hb⟩
  · rw [h1]; exact ⟨A', c', by simp only [rideW, h2], h3, hb⟩
theorem runW_len {G : List (List Int)} {S : List Sp} : ∀ {o : List Int} {d d' : Dv}, runT G S o d = some d' → d'.begins.length = d.begins.length + o.length
  | [], d, d', h => by simp only [runT] at h; injection h with h; subst h; simp
  | i :: o, d, d', h => by
    simp only [runT] at h
    cases hs : stepT G S d i with
    | none => rw [hs] at h; cases h
    | some x =>
      rw [hs] at h
      have h1 := runW_len h
      unfold stepT at hs
      split at hs
      · cases hs
      · injection hs with hs
        subst hs
        simp at h1
        rw [h1, List.length_cons]; omega
section
variable {v : List Int × Int × Bool}
theorem rideWI (w1 W : World) (t r : Int) (AL AS : Option Addr) (cL cS : Nat) (R : List Rw) (S : List Sp) (AO : Option Addr) (cO : Nat) (O : List Int) (hv : rideW (rideT t r (gOf R) S O) = v) (hR : RdIn w1 w1.heap.size AL R AS S) (lO : O.length ≤ maxLen) (hO : IL w1 w1.heap.size AO O) (hb : Below w1.heap.size w1 W) : Calls Try.prog 6 #[.agg #[.int .i64 t, .int .i64 r, .slice AL R.length cL, .slice AS S.length cS], .slice AO O.length cO] W (AnsW v W) :=
  (rideI_any W w1.heap.size t r AL AS cL cS R S AO cO O hb.size (hR.below hb) lO (hO.below hb)).mono fun e w' h => rideW_v hv h
theorem rideWS (w1 W : World) (t r : Int) (AL AS : Option Addr) (cL cS : Nat) (R : List Rw) (S : List Sp) (AO : Option Addr) (cO : Nat) (O : List Int) (hv : rideW (rideT t r (gOf R) S O) = v) (hcO : O.length ≤ cO ∧ cO ≤ maxLen) (hR : RdIn w1 w1.heap.size AL R AS S) (lO : O.length ≤ maxLen) (hO : IL w1 w1.heap.size AO O) (hb : Below w1.heap.size w1 W) : Calls Try.prog 7 #[.agg #[.int .i64 t, .int .i64 r, .slice AL R.length cL, .slice AS S.length cS], .slice AO O.length cO] W (AnsW v W) :=
  (rideS_any W w1.heap.size t r AL AS cL cS R S AO cO O hb.size (hR.below hb) lO hcO (hO.below hb)).mono fun e w' h => rideW_v hv h
theorem rideWH (w1 W : World) (t r : Int) (AL AS : Option Addr) (cL cS : Nat) (R : List Rw) (S : List Sp) (AO : Option Addr) (cO : Nat) (O : List Int) (q : Nat) (hq : q ≤ O.length) (hv : rideW (rideT t r (gOf R) S (O.take q)) = v) (hR : RdIn w1 w1.heap.size AL R AS S) (lO : O.length ≤ maxLen) (hO : IL w1 w1.heap.size AO O) (hb : Below w1.heap.size w1 W) : Calls Try.prog 6 #[.agg #[.int .i64 t, .int .i64 r, .slice AL R.length cL, .slice AS S.length cS], .slice AO q cO] W (AnsW v W) := by
  have h := rideWI w1 W t r AL AS cL cS R S AO cO (O.take q) hv hR (by rw [List.length_take]; omega) (hO.take q) hb
  rwa [List.length_take, Nat.min_eq_left hq] at h
theorem lateWI (w1 W : World) (t r : Int) (AL AS : Option Addr) (cL cS : Nat) (R : List Rw) (S : List Sp) (AO : Option Addr) (cO : Nat) (O : List Int) (hR : RdIn w1 w1.heap.size AL R AS S) (lO : O.length ≤ maxLen) (hO : IL w1 w1.heap.size AO O) (hb : Below w1.heap.size w1 W) : Calls Try.prog 11 #[.agg #[.int .i64 t, .int .i64 r, .slice AL R.length cL, .slice AS S.length cS], .slice AO O.length cO] W fun e w' => ∃ x y, e = .returned (.tuple #[.int .i64 x, .bool y]) ∧ LateV t r (gOf R) S O x y ∧ Below W.heap.size W w' :=
  (lateI_any W w1.heap.size t r AL AS cL cS R S AO cO O hb.size (hR.below hb) lO (hO.below hb)).mono fun e w' h => late_v h
theorem lateWS (w1 W : World) (t r : Int) (AL AS : Option Addr) (cL cS : Nat) (R : List Rw) (S : List Sp) (AO : Option Addr) (cO : Nat) (O : List Int) (hcO : O.length ≤ cO ∧ cO ≤ maxLen) (hR : RdIn w1 w1.heap.size AL R AS S) (lO : O.length ≤ maxLen) (hO : IL w1 w1.heap.size AO O) (hb : Below w1.heap.size w1 W) : Calls Try.prog 12 #[.agg #[.int .i64 t, .int .i64 r, .slice AL R.length cL, .slice AS S.length cS], .slice AO O.length cO] W fun e w' => ∃ x y, e = .returned (.tuple #[.int .i64 x, .bool y]) ∧ LateV t r (gOf R) S O x y ∧ Below W.heap.size W w' :=
  (lateS_any W w1.heap.size t r AL AS cL cS R S AO cO O hb.size (hR.below hb) lO hcO (hO.below hb)).mono fun e w' h => late_v h
theorem peakW (w1 W : World) (t r : Int) (AL AS : Option Addr) (cL cS : Nat) (R : List Rw) (S : List Sp) (AO : Option Addr) (cO : Nat) (O : List Int) {x : Int} (hv : peakT t r (gOf R) S O = x) (hR : RdIn w1 w1.heap.size AL R AS S) (lO : O.length ≤ maxLen) (hO : IL w1 w1.heap.size AO O) (hb : Below w1.heap.size w1 W) : Calls Try.prog 13 #[.agg #[.int .i64 t, .int .i64 r, .slice AL R.length cL, .slice AS S.length cS], .slice AO O.length cO] W fun e w' => e = .returned (.int .i64 x) ∧ Below W.heap.size W w' :=
  hv ▸ peakI_any W w1.heap.size t r AL AS cL cS R S AO cO O hb.size (hR.below hb) lO (hO.below hb)
theorem waitW (w1 W : World) (t r : Int) (AL AS : Option Addr) (cL cS : Nat) (R : List Rw) (S : List Sp) (AO : Option Addr) (cO : Nat) (O : List Int) {x : Int} (hv : waitT t r (gOf R) S O = x) (hR : RdIn w1 w1.heap.size AL R AS S) (lO : O.length ≤ maxLen) (hO : IL w1 w1.heap.size AO O) (hb : Below w1.heap.size w1 W) : Calls Try.prog 14 #[.agg #[.int .i64 t, .int .i64 r, .slice AL R.length cL, .slice AS S.length cS], .slice AO O.length cO] W fun e w' => e = .returned (.int .i64 x) ∧ Below W.heap.size W w' :=
  hv ▸ waitI_any W w1.heap.size t r AL AS cL cS R S AO cO O hb.size (hR.below hb) lO (hO.below hb)
theorem ordWI (w1 W : World) (t r : Int) (AL AS : Option Addr) (cL cS : Nat) (R : List Rw) (S : List Sp) (AO : Option Addr) (cO : Nat) (O : List Int) {x : Bool} (hv : orderB t r (gOf R) S O = x) (hR : RdIn w1 w1.heap.size AL R AS S) (lO : O.length ≤ maxLen) (hO : IL w1 w1.heap.size AO O) (hb : Below w1.heap.size w1 W) : Calls Try.prog 9 #[.agg #[.int .i64 t, .int .i64 r, .slice AL R.length cL, .slice AS S.length cS], .slice AO O.length cO] W fun e w' => e = .returned (.bool x) ∧ Below W.heap.size W w' :=
  hv ▸ orderI_any W w1.heap.size t r AL AS cL cS R S AO cO O hb.size (hR.below hb) lO (hO.below hb)
theorem ordWS (w1 W : World) (t r : Int) (AL AS : Option Addr) (cL cS : Nat) (R : List Rw) (S : List Sp) (AO : Option Addr) (cO : Nat) (O : List Int) {x : Bool} (hv : orderB t r (gOf R) S O = x) (hcO : O.length ≤ cO ∧ cO ≤ maxLen) (hR : RdIn w1 w1.heap.size AL R AS S) (lO : O.length ≤ maxLen) (hO : IL w1 w1.heap.size AO O) (hb : Below w1.heap.size w1 W) : Calls Try.prog 10 #[.agg #[.int .i64 t, .int .i64 r, .slice AL R.length cL, .slice AS S.length cS], .slice AO O.length cO] W fun e w' => e = .returned (.bool x) ∧ Below W.heap.size W w' :=
  hv ▸ orderS_any W w1.heap.size t r AL AS cL cS R S AO cO O hcO hb.size (hR.below hb) lO (hO.below hb)
end
set_option maxRecDepth 100000 in
set_option maxHeartbeats 8000000 in
theorem rides_walk (w : World) (A : Option Addr) (na ca : Nat) (hn : na ≤ maxLen) (hS : BS w w.heap.size A na) : Calls Try.prog 3 #[.slice A na ca] w fun e w' => e = .returned (.bool true) ∧ Below w.heap.size w w' := by
  have HS := Lib.hid hS; clear hS
  have HBG := Lib.hid (fun W => big_any W A na ca hn)
  have HDR := Lib.hid (fun W (h : BS W W.heap.size A na) => drawRide_any W A na ca hn h)
  clear hn
  by_cases hbig : (1048576 : Int) < na
  · have hd : decide ((1048576 : Int) < na) = true := by simpa using hbig
    have HD := Lib.hid hd; clear hd
    go_enter Try.func3, Try.ntmps3
    go_wp2_with (refine (HBG.out _).mono ?_; rintro e w' ⟨rfl, hw⟩; rw [hw, HD.out]; clear hw)
    go_ret
    exact ⟨rfl, Below.refl _ _⟩
  have hd : decide ((1048576 : Int) < na) = false := by simpa using hbig
  have HD := Lib.hid hd; clear hd hbig
  go_enter Try.func3, Try.ntmps3
  go_wp2_with (go_at_call 4; refine (HBG.out _).mono ?_; rintro e w' ⟨rfl, hw⟩; rw [hw, HD.out]; clear hw)
  refine (HDR.out w HS.out).mono ?_
  rintro e w1 ⟨b, r, AL, AS, AO, cL, cS, cO, lo, R, S, O, rfl, hA, hO, hO6, hOc, hcO, hwf, hlo, zb0⟩
  have HIN := Lib.hid hA.in_; have HIL := Lib.hid hO.il; have HLO := Lib.hid (show O.length ≤ maxLen by unfold maxLen; omega); have HCO := Lib.hid (show O.length ≤ cO ∧ cO ≤ maxLen from ⟨hOc, hcO⟩)
  have HZ0 := Lib.hid zb0
  have hw01 := zb0.size
  have HWF := Lib.hid hwf
  have HLS := Lib.hid hA.ls
  clear hA hO hwf hlo zb0 hcO
  have hcOn : (O.length : Int) ≤ (cO : Int) := by omega
  have HBGX := HBG; clear HBG HDR HBGX
  have ZB := Lib.hid (Below.refl w1.heap.size w1)
  go_upto_region 4 with fail
  generalize hX : (w1.alloc (.cells #[.int .i64 b, .int .i64 r, .slice AL R.length cL, .slice AS S.length cS] 27)) = w2
  have hb : Below w1.heap.size w1 w2 := by rw [← hX]; exact balloc _ _
  have hk : Has w2 w1.heap.size 27 #[.int .i64 b, .int .i64 r, .slice AL R.length cL, .slice AS S.length cS] := by rw [← hX]; exact has_new _ _ _
  clear hX
  have kk := bthen ZB.out hb; clear ZB; have ZB := Lib.hid kk; clear kk
  have hsw2 := hb.size; clear hb
  obtain ⟨Zt, hZe⟩ : ∃ q, w1.heap.size = q := ⟨_, rfl⟩
  rw [hZe] at hk ⊢
  have hZt : w1.heap.size ≤ Zt := by omega
  have hltt : Zt < w2.heap.size := has_lt hk
  have HX_t := Lib.hid hk; clear hk hZe
  obtain ⟨Q, hQ⟩ : ∃ Q, orderB b r (gOf R) S O = Q := ⟨_, rfl⟩
  have HQ := Lib.hid hQ; clear hQ
  have nQ : (Q != Q) = false := by simp
  cases hr : rideT b r (gOf R) S O with
  | none =>
    have HV := Lib.hid (show rideW (rideT b r (gOf R) S O) = ([], 0, false) by rw [hr]; rfl)
    have HLN := Lib.hid (fun x y (h : LateV b r (gOf R) S O x y) => late_none hr h)
    have HPK := Lib.hid (peakT_none hr); have HWT := Lib.hid (waitT_none hr); clear hr
    have hll : ([] : List Int).length ≤ 1048576 := by simp
    have tc0 := has_cell HX_t.out 0 rfl; have tc1 := has_cell HX_t.out 1 rfl; have tc2 := has_cell HX_t.out 2 rfl; have tc3 := has_cell HX_t.out 3 rfl
    go_wp2_with fail
    clear tc0 tc1 tc2 tc3
    refine (rideWI w1 _ b r AL AS cL cS R S AO cO O HV.out HIN.out HLO.out HIL.out ZB.out).mono ?_
    rintro e w3 ⟨xA, xc, rfl, xo, hb⟩
    have kk := has_call HX_t.out hb; clear HX_t; have HX_t := Lib.hid kk; clear kk
    have kk := bthen ZB.out hb; clear ZB; have ZB := Lib.hid kk; clear kk
    have hsw3 := hb.size; clear hb
    have HI_x := Lib.hid xo.il; clear xo
    have tc0 := has_cell HX_t.out 0 rfl; have tc1 := has_cell HX_t.out 1 rfl; have tc2 := has_cell HX_t.out 2 rfl; have tc3 := has_cell HX_t.out 3 rfl
    go_wp2_with fail
    clear tc0 tc1 tc2 tc3
    refine (rideWS w1 _ b r AL AS cL cS R S AO cO O HV.out HCO.out HIN.out HLO.out HIL.out ZB.out).mono ?_
    rintro e w4 ⟨yA, yc, rfl, yo, hb⟩
    have kk := has_call HX_t.out hb; clear HX_t; have HX_t := Lib.hid kk; clear kk
    have kk := (HI_x.out.below hb).more hb.size; clear HI_x; have HI_x := Lib.hid kk; clear kk
    have kk := bthen ZB.out hb; clear ZB; have ZB := Lib.hid kk; clear kk
    have hsw4 := hb.size; clear hb
    have HI_y := Lib.hid yo.il; clear yo
    have tc0 := has_cell HX_t.out 0 rfl; have tc1 := has_cell HX_t.out 1 rfl; have tc2 := has_cell HX_t.out 2 rfl; have tc3 := has_cell HX_t.out 3 rfl
    try go_wp2_with fail
    have S0 : (fun W : World => (W.cell? ⟨Zt, 0, none⟩ = some (.int .i64 b) ∧ W.cell? ⟨Zt, 1, none⟩ = some (.int .i64 r) ∧ W.cell? ⟨Zt, 2, none⟩ = some (.slice AL R.length cL) ∧ W.cell? ⟨Zt, 3, none⟩ = some (.slice AS S.length cS)) ∧ Below w4.heap.size w4 W) w4.drew := ⟨⟨tc0, tc1, tc2, tc3⟩, (Below.refl _ _).drew⟩
    have zd : Below w1.heap.size w1 w4.drew := ZB.out.drew
    clear tc0 tc1 tc2 tc3
    go_region_held3 (fun W : World => (W.cell? ⟨Zt, 0, none⟩ = some (.int .i64 b) ∧ W.cell? ⟨Zt, 1, none⟩ = some (.int .i64 r) ∧ W.cell? ⟨Zt, 2, none⟩ = some (.slice AL R.length cL) ∧ W.cell? ⟨Zt, 3, none⟩ = some (.slice AS S.length cS)) ∧ Below w4.heap.size w4 W) (first | assumption) (first
      | (go_at_call 8; go_must (refine (sameL_any w4.drew w4.drew.heap.size xA yA xc yc ([] : List Int) hll (Nat.le_refl _) ((HI_x.out.below ((Below.refl w4.heap.size w4).drew)).more ((Below.refl w4.heap.size w4).drew).size) ((HI_y.out.below ((Below.refl w4.heap.size w4).drew)).more ((Below.refl w4.heap.size w4).drew).size)).mono ?_); rintro e wr1 ⟨rfl, h1⟩; have hv1 : Below w4.heap.size w4 wr1 := ((Below.refl w4.heap.size w4).drew).trans h1; have hz1 := hv1.size; have zr1 := bthen zd h1; have S1 : (fun W : World => (W.cell? ⟨Zt, 0, none⟩ = some (.int .i64 b) ∧ W.cell? ⟨Zt, 1, none⟩ = some (.int .i64 r) ∧ W.cell? ⟨Zt, 2, none⟩ = some (.slice AL R.length cL) ∧ W.cell? ⟨Zt, 3, none⟩ = some (.slice AS S.length cS)) ∧ Below w4.heap.size w4 W) wr1 := ⟨⟨(bold hv1 _ _ (by omega)).trans S0.1.1, (bold hv1 _ _ (by omega)).trans S0.1.2.1, (bold hv1 _ _ (by omega)).trans S0.1.2.2.1, (bold hv1 _ _ (by omega)).trans S0.1.2.2.2⟩, hv1⟩)
      | (go_at_call 9; go_must (refine (ordWI w1 wr1 b r AL AS cL cS R S AO cO O HQ.out HIN.out HLO.out HIL.out zr1).mono ?_); rintro e wr2 ⟨rfl, h2⟩; have hv2 : Below w4.heap.size w4 wr2 := bthen hv1 h2; have hz2 := hv2.size; have zr2 := bthen zr1 h2; have S2 : (fun W : World => (W.cell? ⟨Zt, 0, none⟩ = some (.int .i64 b) ∧ W.cell? ⟨Zt, 1, none⟩ = some (.int .i64 r) ∧ W.cell? ⟨Zt, 2, none⟩ = some (.slice AL R.length cL) ∧ W.cell? ⟨Zt, 3, none⟩ = some (.slice AS S.length cS)) ∧ Below w4.heap.size w4 W) wr2 := ⟨⟨(bold hv2 _ _ (by omega)).trans S0.1.1, (bold hv2 _ _ (by omega)).trans S0.1.2.1, (bold hv2 _ _ (by omega)).trans S0.1.2.2.1, (bold hv2 _ _ (by omega)).trans S0.1.2.2.2⟩, hv2⟩)
      | (go_at_call 10; go_must (refine (ordWS w1 wr2 b r AL AS cL cS R S AO cO O HQ.out HCO.out HIN.out HLO.out HIL.out zr2).mono ?_); rintro e wr3 ⟨rfl, h3⟩; have hv3 : Below w4.heap.size w4 wr3 := bthen hv2 h3; have hz3 := hv3.size; have zr3 := bthen zr2 h3; have S3 : (fun W : World => (W.cell? ⟨Zt, 0, none⟩ = some (.int .i64 b) ∧ W.cell? ⟨Zt, 1, none⟩ = some (.int .i64 r) ∧ W.cell? ⟨Zt, 2, none⟩ = some (.slice AL R.length cL) ∧ W.cell? ⟨Zt, 3, none⟩ = some (.slice AS S.length cS)) ∧ Below w4.heap.size w4 W) wr3 := ⟨⟨(bold hv3 _ _ (by omega)).trans S0.1.1, (bold hv3 _ _ (by omega)).trans S0.1.2.1, (bold hv3 _ _ (by omega)).trans S0.1.2.2.1, (bold hv3 _ _ (by omega)).trans S0.1.2.2.2⟩, hv3⟩))
    have hb : Below w4.heap.size w4 wr3 := hv3
    clear S0 S1 S2 S3 zd hz3 hv3 h3 zr3 hz2 hv2 h2 zr2 hz1 hv1 h1 zr1
    have kk := has_call HX_t.out hb; clear HX_t; have HX_t := Lib.hid kk; clear kk
    have kk := (HI_x.out.below hb).more hb.size; clear HI_x; have HI_x := Lib.hid kk; clear kk
    have kk := (HI_y.out.below hb).more hb.size; clear HI_y; have HI_y := Lib.hid kk; clear kk
    have kk := bthen ZB.out hb; clear ZB; have ZB := Lib.hid kk; clear kk
    have hswr3 := hb.size; clear hb
    have tc0 := has_cell HX_t.out 0 rfl; have tc1 := has_cell HX_t.out 1 rfl; have tc2 := has_cell HX_t.out 2 rfl; have tc3 := has_cell HX_t.out 3 rfl
    go_wp2_with fail
    clear tc0 tc1 tc2 tc3
    refine (lateWI w1 _ b r AL AS cL cS R S AO cO O HIN.out HLO.out HIL.out ZB.out).mono ?_
    rintro e w6 ⟨x, y, rfl, hv, hb⟩
    have kk := has_call HX_t.out hb; clear HX_t; have HX_t := Lib.hid kk; clear kk
    have kk := (HI_x.out.below hb).more hb.size; clear HI_x; have HI_x := Lib.hid kk; clear kk
    have kk := (HI_y.out.below hb).more hb.size; clear HI_y; have HI_y := Lib.hid kk; clear kk
    have kk := bthen ZB.out hb; clear ZB; have ZB := Lib.hid kk; clear kk
    have hsw6 := hb.size; clear hb
    have HLV := Lib.hid hv; clear hv
    have tc0 := has_cell HX_t.out 0 rfl; have tc1 := has_cell HX_t.out 1 rfl; have tc2 := has_cell HX_t.out 2 rfl; have tc3 := has_cell HX_t.out 3 rfl
    go_wp2_with fail
    clear tc0 tc1 tc2 tc3
    refine (lateWS w1 _ b r AL AS cL cS R S AO cO O HCO.out HIN.out HLO.out HIL.out ZB.out).mono ?_
    rintro e w7 ⟨x2, y2, rfl, hv, hb⟩
    have kk := has_call HX_t.out hb; clear HX_t; have HX_t := Lib.hid kk; clear kk
    have kk := (HI_x.out.below hb).more hb.size; clear HI_x; have HI_x := Lib.hid kk; clear kk
    have kk := (HI_y.out.below hb).more hb.size; clear HI_y; have HI_y := Lib.hid kk; clear kk
    have kk := bthen ZB.out hb; clear ZB; have ZB := Lib.hid kk; clear kk
    have hsw7 := hb.size; clear hb
    obtain ⟨rfl, rfl⟩ := HLV.out.unique hv; clear hv
    have nx : (x2 != x2) = false := by simp
    rcases HLN.out _ _ HLV.out with rfl | ⟨rfl, hxb⟩
    · skip
      have tc0 := has_cell HX_t.out 0 rfl; have tc1 := has_cell HX_t.out 1 rfl; have tc2 := has_cell HX_t.out 2 rfl; have tc3 := has_cell HX_t.out 3 rfl
      go_wp2_with fail
      clear tc0 tc1 tc2 tc3
      refine (peakW w1 _ b r AL AS cL cS R S AO cO O HPK.out HIN.out HLO.out HIL.out ZB.out).mono ?_
      rintro e w8 ⟨rfl, hb⟩
      have kk := has_call HX_t.out hb; clear HX_t; have HX_t := Lib.hid kk; clear kk
      have kk := (HI_x.out.below hb).more hb.size; clear HI_x; have HI_x := Lib.hid kk; clear kk
      have kk := (HI_y.out.below hb).more hb.size; clear HI_y; have HI_y := Lib.hid kk; clear kk
      have kk := bthen ZB.out hb; clear ZB; have ZB := Lib.hid kk; clear kk
      have hsw8 := hb.size; clear hb
      have tc0 := has_cell HX_t.out 0 rfl; have tc1 := has_cell HX_t.out 1 rfl; have tc2 := has_cell HX_t.out 2 rfl; have tc3 := has_cell HX_t.out 3 rfl
      go_wp2_with fail
      clear tc0 tc1 tc2 tc3
      refine (waitW w1 _ b r AL AS cL cS R S AO cO O HWT.out HIN.out HLO.out HIL.out ZB.out).mono ?_
      rintro e w9 ⟨rfl, hb⟩
      have kk := has_call HX_t.out hb; clear HX_t; have HX_t := Lib.hid kk; clear kk
      have kk := (HI_x.out.below hb).more hb.size; clear HI_x; have HI_x := Lib.hid kk; clear kk
      have kk := (HI_y.out.below hb).more hb.size; clear HI_y; have HI_y := Lib.hid kk; clear kk
      have kk := bthen ZB.out hb; clear ZB; have ZB := Lib.hid kk; clear kk
      have hsw9 := hb.size; clear hb
      have tc0 := has_cell HX_t.out 0 rfl; have tc1 := has_cell HX_t.out 1 rfl; have tc2 := has_cell HX_t.out 2 rfl; have tc3 := has_cell HX_t.out 3 rfl
      go_wp2_with fail
      go_ret
      exact ⟨rfl, HZ0.out.trans (ZB.out.mono hw01)⟩
    · skip
      have hdx : decide (x2 < b) = true := decide_eq_true hxb
      have tc0 := has_cell HX_t.out 0 rfl; have tc1 := has_cell HX_t.out 1 rfl; have tc2 := has_cell HX_t.out 2 rfl; have tc3 := has_cell HX_t.out 3 rfl
      go_wp2_with fail
      clear tc0 tc1 tc2 tc3
      refine (peakW w1 _ b r AL AS cL cS R S AO cO O HPK.out HIN.out HLO.out HIL.out ZB.out).mono ?_
      rintro e w8 ⟨rfl, hb⟩
      have kk := has_call HX_t.out hb; clear HX_t; have HX_t := Lib.hid kk; clear kk
      have kk := (HI_x.out.below hb).more hb.size; clear HI_x; have HI_x := Lib.hid kk; clear kk
      have kk := (HI_y.out.below hb).more hb.size; clear HI_y; have HI_y := Lib.hid kk; clear kk
      have kk := bthen ZB.out hb; clear ZB; have ZB := Lib.hid kk; clear kk
      have hsw8 := hb.size; clear hb
      have tc0 := has_cell HX_t.out 0 rfl; have tc1 := has_cell HX_t.out 1 rfl; have tc2 := has_cell HX_t.out 2 rfl; have tc3 := has_cell HX_t.out 3 rfl
      go_wp2_with fail
      clear tc0 tc1 tc2 tc3
      refine (waitW w1 _ b r AL AS cL cS R S AO cO O HWT.out HIN.out HLO.out HIL.out ZB.out).mono ?_
      rintro e w9 ⟨rfl, hb⟩
      have kk := has_call HX_t.out hb; clear HX_t; have HX_t := Lib.hid kk; clear kk
      have kk := (HI_x.out.below hb).more hb.size; clear HI_x; have HI_x := Lib.hid kk; clear kk
      have kk := (HI_y.out.below hb).more hb.size; clear HI_y; have HI_y := Lib.hid kk; clear kk
      have kk := bthen ZB.out hb; clear ZB; have ZB := Lib.hid kk; clear kk
      have hsw9 := hb.size; clear hb
      have tc0 := has_cell HX_t.out 0 rfl; have tc1 := has_cell HX_t.out 1 rfl; have tc2 := has_cell HX_t.out 2 rfl; have tc3 := has_cell HX_t.out 3 rfl
      go_wp2_with fail
      go_ret
      exact ⟨rfl, HZ0.out.trans (ZB.out.mono hw01)⟩
  | some d =>
    obtain ⟨l0, hl0⟩ : ∃ q, d.begins = q := ⟨_, rfl⟩; obtain ⟨f, hf⟩ : ∃ q, d.fin = q := ⟨_, rfl⟩; obtain ⟨pk, hpk⟩ : ∃ q, d.peak = q := ⟨_, rfl⟩; obtain ⟨wt, hwt⟩ : ∃ q, d.wait = q := ⟨_, rfl⟩
    have HV := Lib.hid (show rideW (rideT b r (gOf R) S O) = (l0, f, true) by rw [hr, rideW, hl0, hf])
    have HPK := Lib.hid (show peakT b r (gOf R) S O = pk by rw [peakT_some hr, hpk])
    have HWT := Lib.hid (show waitT b r (gOf R) S O = wt by rw [waitT_some hr, hwt])
    have HRD := Lib.hid hr; have HF := Lib.hid hf; have HWQ := Lib.hid hwt
    have hpr : pk ≤ r := by have := ride_peak hr; omega
    have hfr := ride_fin hr; rw [hf] at hfr; obtain ⟨hf0, hf1⟩ := hfr
    have hll : l0.length ≤ 1048576 := by
      obtain ⟨e9, he9, _, hd9⟩ := drive_some (ride_some hr).2; have hn9 := runW_len he9; rw [← hl0, hd9]; dsimp only at hn9 ⊢; simp at hn9; omega
    have hOB := (ordT_of (ride_some hr).1); have HT := Lib.hid hOB.1; have HOT := Lib.hid hOB.2; have hb0 := hOB.1.b0; have hb1 := hOB.1.b1; have hr1 := hOB.1.r1; clear hOB
    have nf : (f != f) = false := by simp
    clear hr hl0 hf hpk hwt
    have tc0 := has_cell HX_t.out 0 rfl; have tc1 := has_cell HX_t.out 1 rfl; have tc2 := has_cell HX_t.out 2 rfl; have tc3 := has_cell HX_t.out 3 rfl
    go_wp2_with fail
    clear tc0 tc1 tc2 tc3
    refine (rideWI w1 _ b r AL AS cL cS R S AO cO O HV.out HIN.out HLO.out HIL.out ZB.out).mono ?_
    rintro e w3 ⟨xA, xc, rfl, xo, hb⟩
    have kk := has_call HX_t.out hb; clear HX_t; have HX_t := Lib.hid kk; clear kk
    have kk := bthen ZB.out hb; clear ZB; have ZB := Lib.hid kk; clear kk
    have hsw3 := hb.size; clear hb
    have HI_x := Lib.hid xo.il; clear xo
    have tc0 := has_cell HX_t.out 0 rfl; have tc1 := has_cell HX_t.out 1 rfl; have tc2 := has_cell HX_t.out 2 rfl; have tc3 := has_cell HX_t.out 3 rfl
    go_wp2_with fail
    clear tc0 tc1 tc2 tc3
    refine (rideWS w1 _ b r AL AS cL cS R S AO cO O HV.out HCO.out HIN.out HLO.out HIL.out ZB.out).mono ?_
    rintro e w4 ⟨yA, yc, rfl, yo, hb⟩
    have kk := has_call HX_t.out hb; clear HX_t; have HX_t := Lib.hid kk; clear kk
    have kk := (HI_x.out.below hb).more hb.size; clear HI_x; have HI_x := Lib.hid kk; clear kk
    have kk := bthen ZB.out hb; clear ZB; have ZB := Lib.hid kk; clear kk
    have hsw4 := hb.size; clear hb
    have HI_y := Lib.hid yo.il; clear yo
    have tc0 := has_cell HX_t.out 0 rfl; have tc1 := has_cell HX_t.out 1 rfl; have tc2 := has_cell HX_t.out 2 rfl; have tc3 := has_cell HX_t.out 3 rfl
    try go_wp2_with fail
    have S0 : (fun W : World => (W.cell? ⟨Zt, 0, none⟩ = some (.int .i64 b) ∧ W.cell? ⟨Zt, 1, none⟩ = some (.int .i64 r) ∧ W.cell? ⟨Zt, 2, none⟩ = some (.slice AL R.length cL) ∧ W.cell? ⟨Zt, 3, none⟩ = some (.slice AS S.length cS)) ∧ Below w4.heap.size w4 W) w4.drew := ⟨⟨tc0, tc1, tc2, tc3⟩, (Below.refl _ _).drew⟩
    have zd : Below w1.heap.size w1 w4.drew := ZB.out.drew
    clear tc0 tc1 tc2 tc3
    go_region_held3 (fun W : World => (W.cell? ⟨Zt, 0, none⟩ = some (.int .i64 b) ∧ W.cell? ⟨Zt, 1, none⟩ = some (.int .i64 r) ∧ W.cell? ⟨Zt, 2, none⟩ = some (.slice AL R.length cL) ∧ W.cell? ⟨Zt, 3, none⟩ = some (.slice AS S.length cS)) ∧ Below w4.heap.size w4 W) (first | assumption) (first
      | (go_at_call 8; go_must (refine (sameL_any w4.drew w4.drew.heap.size xA yA xc yc l0 hll (Nat.le_refl _) ((HI_x.out.below ((Below.refl w4.heap.size w4).drew)).more ((Below.refl w4.heap.size w4).drew).size) ((HI_y.out.below ((Below.refl w4.heap.size w4).drew)).more ((Below.refl w4.heap.size w4).drew).size)).mono ?_); rintro e wr1 ⟨rfl, h1⟩; have hv1 : Below w4.heap.size w4 wr1 := ((Below.refl w4.heap.size w4).drew).trans h1; have hz1 := hv1.size; have zr1 := bthen zd h1; have S1 : (fun W : World => (W.cell? ⟨Zt, 0, none⟩ = some (.int .i64 b) ∧ W.cell? ⟨Zt, 1, none⟩ = some (.int .i64 r) ∧ W.cell? ⟨Zt, 2, none⟩ = some (.slice AL R.length cL) ∧ W.cell? ⟨Zt, 3, none⟩ = some (.slice AS S.length cS)) ∧ Below w4.heap.size w4 W) wr1 := ⟨⟨(bold hv1 _ _ (by omega)).trans S0.1.1, (bold hv1 _ _ (by omega)).trans S0.1.2.1, (bold hv1 _ _ (by omega)).trans S0.1.2.2.1, (bold hv1 _ _ (by omega)).trans S0.1.2.2.2⟩, hv1⟩)
      | (go_at_call 9; go_must (refine (ordWI w1 wr1 b r AL AS cL cS R S AO cO O HQ.out HIN.out HLO.out HIL.out zr1).mono ?_); rintro e wr2 ⟨rfl, h2⟩; have hv2 : Below w4.heap.size w4 wr2 := bthen hv1 h2; have hz2 := hv2.size; have zr2 := bthen zr1 h2; have S2 : (fun W : World => (W.cell? ⟨Zt, 0, none⟩ = some (.int .i64 b) ∧ W.cell? ⟨Zt, 1, none⟩ = some (.int .i64 r) ∧ W.cell? ⟨Zt, 2, none⟩ = some (.slice AL R.length cL) ∧ W.cell? ⟨Zt, 3, none⟩ = some (.slice AS S.length cS)) ∧ Below w4.heap.size w4 W) wr2 := ⟨⟨(bold hv2 _ _ (by omega)).trans S0.1.1, (bold hv2 _ _ (by omega)).trans S0.1.2.1, (bold hv2 _ _ (by omega)).trans S0.1.2.2.1, (bold hv2 _ _ (by omega)).trans S0.1.2.2.2⟩, hv2⟩)
      | (go_at_call 10; go_must (refine (ordWS w1 wr2 b r AL AS cL cS R S AO cO O HQ.out HCO.out HIN.out HLO.out HIL.out zr2).mono ?_); rintro e wr3 ⟨rfl, h3⟩; have hv3 : Below w4.heap.size w4 wr3 := bthen hv2 h3; have hz3 := hv3.size; have zr3 := bthen zr2 h3; have S3 : (fun W : World => (W.cell? ⟨Zt, 0, none⟩ = some (.int .i64 b) ∧ W.cell? ⟨Zt, 1, none⟩ = some (.int .i64 r) ∧ W.cell? ⟨Zt, 2, none⟩ = some (.slice AL R.length cL) ∧ W.cell? ⟨Zt, 3, none⟩ = some (.slice AS S.length cS)) ∧ Below w4.heap.size w4 W) wr3 := ⟨⟨(bold hv3 _ _ (by omega)).trans S0.1.1, (bold hv3 _ _ (by omega)).trans S0.1.2.1, (bold hv3 _ _ (by omega)).trans S0.1.2.2.1, (bold hv3 _ _ (by omega)).trans S0.1.2.2.2⟩, hv3⟩))
    have hb : Below w4.heap.size w4 wr3 := hv3
    clear S0 S1 S2 S3 zd hz3 hv3 h3 zr3 hz2 hv2 h2 zr2 hz1 hv1 h1 zr1
    have kk := has_call HX_t.out hb; clear HX_t; have HX_t := Lib.hid kk; clear kk
    have kk := (HI_x.out.below hb).more hb.size; clear HI_x; have HI_x := Lib.hid kk; clear kk
    have kk := (HI_y.out.below hb).more hb.size; clear HI_y; have HI_y := Lib.hid kk; clear kk
    have kk := bthen ZB.out hb; clear ZB; have ZB := Lib.hid kk; clear kk
    have hswr3 := hb.size; clear hb
    have tc0 := has_cell HX_t.out 0 rfl; have tc1 := has_cell HX_t.out 1 rfl; have tc2 := has_cell HX_t.out 2 rfl; have tc3 := has_cell HX_t.out 3 rfl
    go_wp2_with fail
    clear tc0 tc1 tc2 tc3
    refine (lateWI w1 _ b r AL AS cL cS R S AO cO O HIN.out HLO.out HIL.out ZB.out).mono ?_
    rintro e w6 ⟨x, y, rfl, hv, hb⟩
    have kk := has_call HX_t.out hb; clear HX_t; have HX_t := Lib.hid kk; clear kk
    have kk := (HI_x.out.below hb).more hb.size; clear HI_x; have HI_x := Lib.hid kk; clear kk
    have kk := (HI_y.out.below hb).more hb.size; clear HI_y; have HI_y := Lib.hid kk; clear kk
    have kk := bthen ZB.out hb; clear ZB; have ZB := Lib.hid kk; clear kk
    have hsw6 := hb.size; clear hb
    have HLV := Lib.hid hv; clear hv
    have tc0 := has_cell HX_t.out 0 rfl; have tc1 := has_cell HX_t.out 1 rfl; have tc2 := has_cell HX_t.out 2 rfl; have tc3 := has_cell HX_t.out 3 rfl
    go_wp2_with fail
    clear tc0 tc1 tc2 tc3
    refine (lateWS w1 _ b r AL AS cL cS R S AO cO O HCO.out HIN.out HLO.out HIL.out ZB.out).mono ?_
    rintro e w7 ⟨x2, y2, rfl, hv, hb⟩
    have kk := has_call HX_t.out hb; clear HX_t; have HX_t := Lib.hid kk; clear kk
    have kk := (HI_x.out.below hb).more hb.size; clear HI_x; have HI_x := Lib.hid kk; clear kk
    have kk := (HI_y.out.below hb).more hb.size; clear HI_y; have HI_y := Lib.hid kk; clear kk
    have kk := bthen ZB.out hb; clear ZB; have ZB := Lib.hid kk; clear kk
    have hsw7 := hb.size; clear hb
    obtain ⟨rfl, rfl⟩ := HLV.out.unique hv; clear hv
    have nx : (x2 != x2) = false := by simp
    obtain ⟨rfl, hx0, hx1, ⟨e4, he4⟩, he5⟩ := late_of HRD.out HLV.out
    obtain ⟨l4, f4, h4⟩ : ∃ l4 f4, rideW (rideT x2 r (gOf R) S O) = (l4, f4, true) := ⟨_, _, by rw [he4]; rfl⟩
    have HV4 := Lib.hid h4; have HV5 := Lib.hid (show rideW (rideT (x2 + 1) r (gOf R) S O) = ([], 0, false) by rw [he5]; rfl); clear h4 he4 he5
    obtain ⟨q, hq⟩ : ∃ q : Nat, q = O.length / 2 := ⟨_, rfl⟩
    obtain ⟨e3, he3⟩ := ride_take HRD.out q
    obtain ⟨l3, f3, h3⟩ : ∃ l3 f3, rideW (rideT b r (gOf R) S (O.take q)) = (l3, f3, true) := ⟨_, _, by rw [he3]; rfl⟩
    have HV3 := Lib.hid h3; clear h3 he3
    have hqO : q ≤ O.length := by omega
    have hqd : (O.length : Int).tdiv 2 = (q : Int) := by rw [hq, Int.tdiv_eq_ediv_of_nonneg (by omega)]; omega
    have hqd2 : (O.length : Int) / 2 = (q : Int) := by rw [hq]; omega
    have hqw : IntKind.i64.wrap (q : Int) = (q : Int) := IntWalk.i64_in _ (by omega)
    have hqc : (q : Int) ≤ (cO : Int) := by omega
    have hq0 : (0 : Int) ≤ (q : Int) := by omega
    clear hq
    obtain ⟨h9, hh9⟩ : ∃ q, q = b / 2 := ⟨_, rfl⟩
    have hb2 : b.tdiv 2 = h9 := by rw [hh9, Int.tdiv_eq_ediv_of_nonneg hb0]
    have hb3 : b / 2 = h9 := hh9.symm
    have hh0 : 0 ≤ h9 := by omega
    have hh1 : h9 ≤ b := by omega
    obtain ⟨e6, he6, hf6⟩ := ride_early HRD.out hh0 hh1
    obtain ⟨l6, f6, h6, hff⟩ : ∃ l6 f6, rideW (rideT h9 r (gOf R) S O) = (l6, f6, true) ∧ f6 ≤ f := ⟨_, _, by rw [he6]; rfl, by rw [← HF.out]; exact hf6⟩
    have HV6 := Lib.hid h6; clear h6 he6 hf6 hh9
    have tc0 := has_cell HX_t.out 0 rfl; have tc1 := has_cell HX_t.out 1 rfl; have tc2 := has_cell HX_t.out 2 rfl; have tc3 := has_cell HX_t.out 3 rfl
    go_wp2_with fail
    clear tc0 tc1 tc2 tc3
    have tc0 := has_cell HX_t.out 0 rfl; have tc1 := has_cell HX_t.out 1 rfl; have tc2 := has_cell HX_t.out 2 rfl; have tc3 := has_cell HX_t.out 3 rfl
    try go_wp2_with fail
    have S0 : (fun W : World => W.cell? ⟨Zt, 0, none⟩ = some (.int .i64 b) ∧ W.cell? ⟨Zt, 1, none⟩ = some (.int .i64 r) ∧ W.cell? ⟨Zt, 2, none⟩ = some (.slice AL R.length cL) ∧ W.cell? ⟨Zt, 3, none⟩ = some (.slice AS S.length cS)) w7.drew := ⟨tc0, tc1, tc2, tc3⟩
    clear tc0 tc1 tc2 tc3
    refine wp_region_held_drew (S := (fun W : World => W.cell? ⟨Zt, 0, none⟩ = some (.int .i64 b) ∧ W.cell? ⟨Zt, 1, none⟩ = some (.int .i64 r) ∧ W.cell? ⟨Zt, 2, none⟩ = some (.slice AL R.length cL) ∧ W.cell? ⟨Zt, 3, none⟩ = some (.slice AS S.length cS))) (by kernel_rfl) S0 (fun _ => ?_)
    obtain ⟨w8, hdw⟩ : ∃ q, q = w7.drew := ⟨_, rfl⟩
    rw [← hdw] at S0 ⊢
    have hb : Below w7.heap.size w7 w8 := by rw [hdw]; exact (Below.refl _ _).drew
    clear hdw
    have kk := has_call HX_t.out hb; clear HX_t; have HX_t := Lib.hid kk; clear kk
    have kk := (HI_x.out.below hb).more hb.size; clear HI_x; have HI_x := Lib.hid kk; clear kk
    have kk := (HI_y.out.below hb).more hb.size; clear HI_y; have HI_y := Lib.hid kk; clear kk
    have kk := bthen ZB.out hb; clear ZB; have ZB := Lib.hid kk; clear kk
    have hsw8 := hb.size; clear hb
    refine any_take (i := 0) (some 118) (.agg #[.int .i64 b, .int .i64 r, .slice AL R.length cL, .slice AS S.length cS]) rfl rfl (by kernel_rfl) (by kernel_rfl) (by kernel_rfl) (fun _ _ _ h => h) rfl (fun W hSw => ?_) (S0) ?_
    · (try dsimp only at hSw); go_simp <;> with_reducible rfl
    try simp only [Act.put, List.setIfInBounds_toArray, List.set_cons_zero, List.set_cons_succ]
    refine any_take (i := 1) (some 119) (.slice AO O.length cO) rfl rfl (by kernel_rfl) (by kernel_rfl) (by kernel_rfl) (fun _ _ _ h => h) rfl (fun W hSw => ?_) (S0) ?_
    · (try dsimp only at hSw); go_simp <;> with_reducible rfl
    try simp only [Act.put, List.setIfInBounds_toArray, List.set_cons_zero, List.set_cons_succ]
    refine any_take (i := 2) (some 120) (.slice AO O.length cO) rfl rfl (by kernel_rfl) (by kernel_rfl) (by kernel_rfl) (fun _ _ _ h => h) rfl (fun W hSw => ?_) (S0) ?_
    · (try dsimp only at hSw); go_simp <;> with_reducible rfl
    try simp only [Act.put, List.setIfInBounds_toArray, List.set_cons_zero, List.set_cons_succ]
    refine any_take (i := 3) (some 121) (.int .i64 (O.length : Int)) rfl rfl (by kernel_rfl) (by kernel_rfl) (by kernel_rfl) (fun _ _ _ h => h) rfl (fun W hSw => ?_) (S0) ?_
    · (try dsimp only at hSw); go_simp <;> with_reducible rfl
    try simp only [Act.put, List.setIfInBounds_toArray, List.set_cons_zero, List.set_cons_succ]
    refine any_take (i := 4) (some 122) (.int .i64 (q : Int)) rfl rfl (by kernel_rfl) (by kernel_rfl) (by kernel_rfl) (fun _ _ _ h => h) rfl (fun W hSw => ?_) (S0) ?_
    · (try dsimp only at hSw); go_simp <;> with_reducible rfl
    try simp only [Act.put, List.setIfInBounds_toArray, List.set_cons_zero, List.set_cons_succ]
    refine any_take (i := 5) (some 123) (.slice AO q cO) rfl rfl (by kernel_rfl) (by kernel_rfl) (by kernel_rfl) (fun _ _ _ h => h) rfl (fun W hSw => ?_) (S0) ?_
    · (try dsimp only at hSw); go_simp <;> with_reducible rfl
    try simp only [Act.put, List.setIfInBounds_toArray, List.set_cons_zero, List.set_cons_succ]
    refine wpAnyH_ready (rs := [6]) (by kernel_rfl) (by simp) ?_
    refine AllReadyH.cons rfl (fun K hK => ?_) AllReadyH.nil
    go_simp
    go_at_call 6
    refine (rideWH w1 _ b r AL AS cL cS R S AO cO O q hqO HV3.out HIN.out HLO.out HIL.out ZB.out).mono ?_
    rintro e w9 ⟨zA, zc, rfl, zo, hb⟩
    have kk := has_call HX_t.out hb; clear HX_t; have HX_t := Lib.hid kk; clear kk
    have kk := (HI_x.out.below hb).more hb.size; clear HI_x; have HI_x := Lib.hid kk; clear kk
    have kk := (HI_y.out.below hb).more hb.size; clear HI_y; have HI_y := Lib.hid kk; clear kk
    have kk := bthen ZB.out hb; clear ZB; have ZB := Lib.hid kk; clear kk
    have hsw9 := hb.size; clear hb
    have HI_z := Lib.hid zo.il; clear zo
    have S1 : (fun W : World => W.cell? ⟨Zt, 0, none⟩ = some (.int .i64 b) ∧ W.cell? ⟨Zt, 1, none⟩ = some (.int .i64 r) ∧ W.cell? ⟨Zt, 2, none⟩ = some (.slice AL R.length cL) ∧ W.cell? ⟨Zt, 3, none⟩ = some (.slice AS S.length cS)) w9 := ⟨has_cell HX_t.out 0 rfl, has_cell HX_t.out 1 rfl, has_cell HX_t.out 2 rfl, has_cell HX_t.out 3 rfl⟩
    go_wp2_with fail
    refine hK.out _ _ S1 (fun _ => ?_)
    clear hK K
    try simp only [Act.put, List.setIfInBounds_toArray, List.set_cons_zero, List.set_cons_succ]
    refine any_take (i := 7) (some 117) (.tuple #[.slice zA l3.length zc, .int .i64 f3, .bool true]) rfl rfl (by kernel_rfl) (by kernel_rfl) (by kernel_rfl) (fun _ _ _ h => h) rfl (fun W hSw => ?_) (S1) ?_
    · (try dsimp only at hSw); go_simp <;> with_reducible rfl
    try simp only [Act.put, List.setIfInBounds_toArray, List.set_cons_zero, List.set_cons_succ]
    refine any_take (i := 8) (some 125) (.slice zA l3.length zc) rfl rfl (by kernel_rfl) (by kernel_rfl) (by kernel_rfl) (fun _ _ _ h => h) rfl (fun W hSw => ?_) (S1) ?_
    · (try dsimp only at hSw); go_simp <;> with_reducible rfl
    try simp only [Act.put, List.setIfInBounds_toArray, List.set_cons_zero, List.set_cons_succ]
    refine any_take (i := 9) (some 126) (.int .i64 f3) rfl rfl (by kernel_rfl) (by kernel_rfl) (by kernel_rfl) (fun _ _ _ h => h) rfl (fun W hSw => ?_) (S1) ?_
    · (try dsimp only at hSw); go_simp <;> with_reducible rfl
    try simp only [Act.put, List.setIfInBounds_toArray, List.set_cons_zero, List.set_cons_succ]
    refine any_take (i := 10) (some 127) (.bool true) rfl rfl (by kernel_rfl) (by kernel_rfl) (by kernel_rfl) (fun _ _ _ h => h) rfl (fun W hSw => ?_) (S1) ?_
    · (try dsimp only at hSw); go_simp <;> with_reducible rfl
    try simp only [Act.put, List.setIfInBounds_toArray, List.set_cons_zero, List.set_cons_succ]
    refine any_take (i := 11) (some 15) (.slice zA l3.length zc) rfl rfl (by kernel_rfl) (by kernel_rfl) (by kernel_rfl) (fun _ _ _ h => h) rfl (fun W hSw => ?_) (S1) ?_
    · (try dsimp only at hSw); go_simp <;> with_reducible rfl
    try simp only [Act.put, List.setIfInBounds_toArray, List.set_cons_zero, List.set_cons_succ]
    refine any_take (i := 12) (some 16) (.int .i64 f3) rfl rfl (by kernel_rfl) (by kernel_rfl) (by kernel_rfl) (fun _ _ _ h => h) rfl (fun W hSw => ?_) (S1) ?_
    · (try dsimp only at hSw); go_simp <;> with_reducible rfl
    try simp only [Act.put, List.setIfInBounds_toArray, List.set_cons_zero, List.set_cons_succ]
    refine any_take (i := 13) (some 17) (.bool true) rfl rfl (by kernel_rfl) (by kernel_rfl) (by kernel_rfl) (fun _ _ _ h => h) rfl (fun W hSw => ?_) (S1) ?_
    · (try dsimp only at hSw); go_simp <;> with_reducible rfl
    try simp only [Act.put, List.setIfInBounds_toArray, List.set_cons_zero, List.set_cons_succ]
    refine wpAnyH_done (by kernel_rfl) ?_ _
    clear S0 S1
    clear HI_x HI_y HI_z
    have tc0 := has_cell HX_t.out 0 rfl; have tc1 := has_cell HX_t.out 1 rfl; have tc2 := has_cell HX_t.out 2 rfl; have tc3 := has_cell HX_t.out 3 rfl
    go_upto_region 16 with fail
    clear tc0 tc1 tc2 tc3
    generalize hX : (w9.alloc (.cells #[.int .i64 b, .int .i64 r, .slice AL R.length cL, .slice AS S.length cS] 27)) = w10
    have hb : Below w9.heap.size w9 w10 := by rw [← hX]; exact balloc _ _
    have hk : Has w10 w9.heap.size 27 #[.int .i64 b, .int .i64 r, .slice AL R.length cL, .slice AS S.length cS] := by rw [← hX]; exact has_new _ _ _
    clear hX
    have kk := has_call HX_t.out hb; clear HX_t; have HX_t := Lib.hid kk; clear kk
    have kk := bthen ZB.out hb; clear ZB; have ZB := Lib.hid kk; clear kk
    have hsw10 := hb.size; clear hb
    obtain ⟨Zs, hZe⟩ : ∃ q, w9.heap.size = q := ⟨_, rfl⟩
    rw [hZe] at hk ⊢
    have hZs : w1.heap.size ≤ Zs := by have := ZB.out.size; omega
    have hlts : Zs < w10.heap.size := has_lt hk
    have hZts : Zt < Zs := by omega
    have HX_s := Lib.hid hk; clear hk hZe
    have sc0 := has_cell HX_s.out 0 rfl; have sc1 := has_cell HX_s.out 1 rfl; have sc2 := has_cell HX_s.out 2 rfl; have sc3 := has_cell HX_s.out 3 rfl
    have tc0 := has_cell HX_t.out 0 rfl; have tc1 := has_cell HX_t.out 1 rfl; have tc2 := has_cell HX_t.out 2 rfl; have tc3 := has_cell HX_t.out 3 rfl
    have sf0 := has_free HX_s.out 0; have sl := has_lt HX_s.out
    go_upto_region 17 with fail
    clear sc0 sc1 sc2 sc3 tc0 tc1 tc2 tc3 sf0 sl
    generalize hX : World.setCell _ _ _ = w11
    have ho : Only w10 Zs w11 := by rw [← hX]; exact only_set (only_refl _ _) _ _
    have knew : Has w11 Zs 27 #[.int .i64 x2, .int .i64 r, .slice AL R.length cL, .slice AS S.length cS] := by rw [← hX]; simpa using has_set HX_s.out 0 (.int .i64 x2)
    clear hX
    have kk := has_onl HX_t.out ho (by omega); clear HX_t; have HX_t := Lib.hid kk; clear kk
    have kk := ZB.out.trans (only_below ho (by have := ZB.out.size; omega) (by omega)); clear ZB; have ZB := Lib.hid kk; clear kk
    clear HX_s; have HX_s := Lib.hid knew; clear knew
    have hsw11 := ho.size; clear ho
    have sc0 := has_cell HX_s.out 0 rfl; have sc1 := has_cell HX_s.out 1 rfl; have sc2 := has_cell HX_s.out 2 rfl; have sc3 := has_cell HX_s.out 3 rfl
    go_wp2_with fail
    clear sc0 sc1 sc2 sc3
    refine (rideWI w1 _ x2 r AL AS cL cS R S AO cO O HV4.out HIN.out HLO.out HIL.out ZB.out).mono ?_
    rintro e w12 ⟨uA, uc, rfl, uo, hb⟩
    have kk := has_call HX_t.out hb; clear HX_t; have HX_t := Lib.hid kk; clear kk
    have kk := has_call HX_s.out hb; clear HX_s; have HX_s := Lib.hid kk; clear kk
    have kk := bthen ZB.out hb; clear ZB; have ZB := Lib.hid kk; clear kk
    have hsw12 := hb.size; clear hb
    clear uo
    have sc0 := has_cell HX_s.out 0 rfl; have sc1 := has_cell HX_s.out 1 rfl; have sc2 := has_cell HX_s.out 2 rfl; have sc3 := has_cell HX_s.out 3 rfl
    have tc0 := has_cell HX_t.out 0 rfl; have tc1 := has_cell HX_t.out 1 rfl; have tc2 := has_cell HX_t.out 2 rfl; have tc3 := has_cell HX_t.out 3 rfl
    have sf0 := has_free HX_s.out 0; have sl := has_lt HX_s.out
    go_upto_region 19 with fail
    clear sc0 sc1 sc2 sc3 tc0 tc1 tc2 tc3 sf0 sl
    generalize hX : World.setCell _ _ _ = w13
    have ho : Only w12 Zs w13 := by rw [← hX]; exact only_set (only_refl _ _) _ _
    have knew : Has w13 Zs 27 #[.int .i64 (x2 + 1), .int .i64 r, .slice AL R.length cL, .slice AS S.length cS] := by rw [← hX]; simpa using has_set HX_s.out 0 (.int .i64 (x2 + 1))
    clear hX
    have kk := has_onl HX_t.out ho (by omega); clear HX_t; have HX_t := Lib.hid kk; clear kk
    have kk := ZB.out.trans (only_below ho (by have := ZB.out.size; omega) (by omega)); clear ZB; have ZB := Lib.hid kk; clear kk
    clear HX_s; have HX_s := Lib.hid knew; clear knew
    have hsw13 := ho.size; clear ho
    have sc0 := has_cell HX_s.out 0 rfl; have sc1 := has_cell HX_s.out 1 rfl; have sc2 := has_cell HX_s.out 2 rfl; have sc3 := has_cell HX_s.out 3 rfl
    go_wp2_with fail
    clear sc0 sc1 sc2 sc3
    refine (rideWI w1 _ (x2 + 1) r AL AS cL cS R S AO cO O HV5.out HIN.out HLO.out HIL.out ZB.out).mono ?_
    rintro e w14 ⟨vA, vc, rfl, vo, hb⟩
    have kk := has_call HX_t.out hb; clear HX_t; have HX_t := Lib.hid kk; clear kk
    have kk := has_call HX_s.out hb; clear HX_s; have HX_s := Lib.hid kk; clear kk
    have kk := bthen ZB.out hb; clear ZB; have ZB := Lib.hid kk; clear kk
    have hsw14 := hb.size; clear hb
    clear vo
    have sc0 := has_cell HX_s.out 0 rfl; have sc1 := has_cell HX_s.out 1 rfl; have sc2 := has_cell HX_s.out 2 rfl; have sc3 := has_cell HX_s.out 3 rfl
    have tc0 := has_cell HX_t.out 0 rfl; have tc1 := has_cell HX_t.out 1 rfl; have tc2 := has_cell HX_t.out 2 rfl; have tc3 := has_cell HX_t.out 3 rfl
    have sf0 := has_free HX_s.out 0; have sl := has_lt HX_s.out
    go_upto_region 21 with fail
    clear sc0 sc1 sc2 sc3 tc0 tc1 tc2 tc3 sf0 sl
    generalize hX : World.setCell _ _ _ = w15
    have ho : Only w14 Zs w15 := by rw [← hX]; exact only_set (only_refl _ _) _ _
    have knew : Has w15 Zs 27 #[.int .i64 h9, .int .i64 r, .slice AL R.length cL, .slice AS S.length cS] := by rw [← hX]; simpa using has_set HX_s.out 0 (.int .i64 h9)
    clear hX
    have kk := has_onl HX_t.out ho (by omega); clear HX_t; have HX_t := Lib.hid kk; clear kk
    have kk := ZB.out.trans (only_below ho (by have := ZB.out.size; omega) (by omega)); clear ZB; have ZB := Lib.hid kk; clear kk
    clear HX_s; have HX_s := Lib.hid knew; clear knew
    have hsw15 := ho.size; clear ho
    have sc0 := has_cell HX_s.out 0 rfl; have sc1 := has_cell HX_s.out 1 rfl; have sc2 := has_cell HX_s.out 2 rfl; have sc3 := has_cell HX_s.out 3 rfl
    go_wp2_with fail
    clear sc0 sc1 sc2 sc3
    refine (rideWI w1 _ h9 r AL AS cL cS R S AO cO O HV6.out HIN.out HLO.out HIL.out ZB.out).mono ?_
    rintro e w16 ⟨gA, gc, rfl, go, hb⟩
    have kk := has_call HX_t.out hb; clear HX_t; have HX_t := Lib.hid kk; clear kk
    have kk := has_call HX_s.out hb; clear HX_s; have HX_s := Lib.hid kk; clear kk
    have kk := bthen ZB.out hb; clear ZB; have ZB := Lib.hid kk; clear kk
    have hsw16 := hb.size; clear hb
    clear go
    have HL0 := Lib.hid (leg7_0 (ride_some HRD.out).1)
    clear HX_s
    go_wp2_with fail
    go_loopw [28, 29, 30] (fun lv pv iv wr => ∃ (k p : Nat) (l : Int), k ≤ O.length ∧ iv = .int .i64 k ∧ lv = .int .i64 l ∧ pv = .int .i64 (p : Int) ∧ Leg7 b (gOf R) S O k l (p : Int) ∧ Has wr Zt 27 #[.int .i64 b, .int .i64 r, .slice AL R.length cL, .slice AS S.length cS] ∧ Below w1.heap.size w1 wr) (fun _ _ iv _ => O.length - (intOf iv).toNat)
    case atStart => exact ⟨0, 0, 0, Nat.zero_le _, rfl, rfl, rfl, HL0.out, HX_t.out, ZB.out⟩
    clear HL0 HX_t ZB
    case round =>
      obtain ⟨k, p, l, hk, rfl, rfl, rfl, hlg, hzt, hzb⟩ := hrel
      have hrg := leg7_range (r := r) ⟨hb0, hb1⟩ (by omega) hlg; obtain ⟨hl0, hl1, hp0, hp1⟩ := hrg
      have HX_t := Lib.hid hzt; have ZB := Lib.hid hzb; have HLG := Lib.hid hlg; clear hzt hzb hlg
      have hswr := ZB.out.size
      have hltt : Zt < wr.heap.size := has_lt HX_t.out
      by_cases hlt : k < O.length
      · skip
        obtain ⟨bo, fo, i0, hAO, hbO, hx, ho0⟩ := (HIL.out.below ZB.out).at_ hlt
        have hxr := HOT.out.at_ i0 (List.mem_of_getElem? hx)
        obtain ⟨i, rfl⟩ : ∃ i : Nat, i0 = (i : Int) := ⟨i0.toNat, by omega⟩
        obtain ⟨bs2, fs, ⟨s0, s1, s2, s3, s4⟩, hAS, hbS, hs, hs0, hs1, hs2, hs3, hs4⟩ := (HIN.out.below ZB.out).stops.at_ (k := i) (by omega)
        have hsq : stopT S i = ⟨s0, s1, s2, s3, s4⟩ := by have := stop_row (S := S) (i := i) (by omega); rw [hs] at this; injection this with this; exact this.symm
        have hst := (stopB_iff _).1 (HT.out.stops _ (List.mem_of_getElem? hs))
        dsimp only at hs0 hs1 hs2 hs3 hs4 hst
        obtain ⟨⟨XA, xc9, xl⟩, hxr2, hlen, hq⟩ := leg_row HT.out (p := p) (by omega)
        obtain ⟨bl, fl, x', hAL, hbL, hx', hl09⟩ := (HIN.out.below ZB.out).rows.at_ (k := p) (by have := (List.getElem?_eq_some_iff.1 hxr2).1; exact this)
        obtain rfl : x' = ⟨XA, xc9, xl⟩ := by rw [hxr2] at hx'; injection hx' with hx'; exact hx'.symm
        dsimp only at hlen hq hl09
        obtain ⟨b3, f9, y9, hA3, hb39, hy, hy0⟩ := ((HIN.out.below ZB.out).vals _ (List.mem_of_getElem? hxr2)).1.at_ (k := i + 1) (by dsimp only; omega)
        dsimp only at hA3 hy
        have hleg := leg_in HT.out (i := (p : Int)) (j := (i : Int) + 1) (by omega) (by omega) (by omega) (by omega)
        obtain rfl : legT (gOf R) p ((i : Int) + 1) = y9 := by have := hq (i + 1) (by omega); rw [hy] at this; injection this with this; exact this.symm
        have hnx := leg7_next HRD.out hx HLG.out
        obtain ⟨L, hL⟩ : ∃ L, legT (gOf R) p ((i : Int) + 1) = L := ⟨_, rfl⟩
        rw [hL] at hleg hy0 hnx
        rw [hsq] at hnx
        dsimp only at hnx
        have HNX := Lib.hid hnx
        have hlen9 : ((i : Int) + 1) < (xl.length : Int) := by omega
        have hpl : (p : Int) < (R.length : Int) := by have := (List.getElem?_eq_some_iff.1 hxr2).1; omega
        have hiS : (i : Int) < (S.length : Int) := by omega
        have hS4 := HLS.out
        have hi6 : (i : Int) ≤ 4 := by omega
        clear hL hsq hx hs hxr2 hx' hlen hq hy hxr hnx HLG hs0 hs1 hs3 hs4
        subst hAO hAS hAL hA3
        have tc0 := has_cell HX_t.out 0 rfl; have tc1 := has_cell HX_t.out 1 rfl; have tc2 := has_cell HX_t.out 2 rfl; have tc3 := has_cell HX_t.out 3 rfl
        go_wp2_with fail
        go_quiet (fail)
        rename Nat => nq0
        clear tc0 tc1 tc2 tc3
        go_wp2_with fail
        go_roundw
        case rel => exact ⟨k + 1, i + 1, _, by omega, by go_num, rfl, by go_num, HNX.out, HX_t.out, below_drewN ZB.out _⟩
        case measure => simp [intOf]; omega
      have hkl : k = O.length := by omega
      subst hkl
      have hwe := leg7_end HRD.out HLG.out
      rw [HWQ.out, HF.out] at hwe
      by_cases hOn : O = []
      · skip
        rw [if_pos hOn] at hwe
        have hn0 : ¬ ((0 : Int) < (O.length : Int)) := by rw [hOn]; simp
        clear hOn
        have tc0 := has_cell HX_t.out 0 rfl; have tc1 := has_cell HX_t.out 1 rfl; have tc2 := has_cell HX_t.out 2 rfl; have tc3 := has_cell HX_t.out 3 rfl
        go_wp2_with fail
        clear tc0 tc1 tc2 tc3
        have hwa : IntKind.i64.wrap (f - b) = f - b := IntWalk.i64_in _ (by omega)
        have hwb : IntKind.i64.wrap (f - b - l) = f - b - l := IntWalk.i64_in _ (by omega)
        have hweq : (wt == IntKind.i64.wrap (IntKind.i64.wrap (f - b) - l)) = true := by rw [hwa, hwb]; simp; omega
        have HWE := Lib.hid hweq; clear hweq hwa hwb
        have hxb9 : decide (b ≤ x2) = true := decide_eq_true hx0; have hff9 : decide (f6 ≤ f) = true := decide_eq_true hff; have hpr9 : decide (pk ≤ r) = true := decide_eq_true hpr
        clear hwe
        have tc0 := has_cell HX_t.out 0 rfl; have tc1 := has_cell HX_t.out 1 rfl; have tc2 := has_cell HX_t.out 2 rfl; have tc3 := has_cell HX_t.out 3 rfl
        try go_wp2_with fail
        have S0 : (fun W : World => (W.cell? ⟨Zt, 0, none⟩ = some (.int .i64 b) ∧ W.cell? ⟨Zt, 1, none⟩ = some (.int .i64 r) ∧ W.cell? ⟨Zt, 2, none⟩ = some (.slice AL R.length cL) ∧ W.cell? ⟨Zt, 3, none⟩ = some (.slice AS S.length cS)) ∧ Below wr.heap.size wr W) wr.drew := ⟨⟨tc0, tc1, tc2, tc3⟩, (Below.refl _ _).drew⟩
        have zd : Below w1.heap.size w1 wr.drew := ZB.out.drew
        clear tc0 tc1 tc2 tc3
        go_region_held3 (fun W : World => (W.cell? ⟨Zt, 0, none⟩ = some (.int .i64 b) ∧ W.cell? ⟨Zt, 1, none⟩ = some (.int .i64 r) ∧ W.cell? ⟨Zt, 2, none⟩ = some (.slice AL R.length cL) ∧ W.cell? ⟨Zt, 3, none⟩ = some (.slice AS S.length cS)) ∧ Below wr.heap.size wr W) (first | assumption) (first
          | (go_at_call 13; go_must (refine (peakW w1 wr.drew b r AL AS cL cS R S AO cO O HPK.out HIN.out HLO.out HIL.out zd).mono ?_); rintro e wr1 ⟨rfl, h1⟩; have hv1 : Below wr.heap.size wr wr1 := ((Below.refl wr.heap.size wr).drew).trans h1; have hz1 := hv1.size; have zr1 := bthen zd h1; have S1 : (fun W : World => (W.cell? ⟨Zt, 0, none⟩ = some (.int .i64 b) ∧ W.cell? ⟨Zt, 1, none⟩ = some (.int .i64 r) ∧ W.cell? ⟨Zt, 2, none⟩ = some (.slice AL R.length cL) ∧ W.cell? ⟨Zt, 3, none⟩ = some (.slice AS S.length cS)) ∧ Below wr.heap.size wr W) wr1 := ⟨⟨(bold hv1 _ _ (by omega)).trans S0.1.1, (bold hv1 _ _ (by omega)).trans S0.1.2.1, (bold hv1 _ _ (by omega)).trans S0.1.2.2.1, (bold hv1 _ _ (by omega)).trans S0.1.2.2.2⟩, hv1⟩)
          | (go_at_call 14; go_must (refine (waitW w1 wr1 b r AL AS cL cS R S AO cO O HWT.out HIN.out HLO.out HIL.out zr1).mono ?_); rintro e wr2 ⟨rfl, h2⟩; have hv2 : Below wr.heap.size wr wr2 := bthen hv1 h2; have hz2 := hv2.size; have zr2 := bthen zr1 h2; have S2 : (fun W : World => (W.cell? ⟨Zt, 0, none⟩ = some (.int .i64 b) ∧ W.cell? ⟨Zt, 1, none⟩ = some (.int .i64 r) ∧ W.cell? ⟨Zt, 2, none⟩ = some (.slice AL R.length cL) ∧ W.cell? ⟨Zt, 3, none⟩ = some (.slice AS S.length cS)) ∧ Below wr.heap.size wr W) wr2 := ⟨⟨(bold hv2 _ _ (by omega)).trans S0.1.1, (bold hv2 _ _ (by omega)).trans S0.1.2.1, (bold hv2 _ _ (by omega)).trans S0.1.2.2.1, (bold hv2 _ _ (by omega)).trans S0.1.2.2.2⟩, hv2⟩))
        have hb : Below wr.heap.size wr wr2 := hv2
        clear S0 S1 S2 zd hz2 hv2 h2 zr2 hz1 hv1 h1 zr1
        have kk := has_call HX_t.out hb; clear HX_t; have HX_t := Lib.hid kk; clear kk
        have kk := bthen ZB.out hb; clear ZB; have ZB := Lib.hid kk; clear kk
        have hswr2 := hb.size; clear hb
        go_wp2_with fail
        go_ret
        exact ⟨ret_bool HWE.out, HZ0.out.trans (ZB.out.mono hw01)⟩
      · skip
        rw [if_neg hOn] at hwe
        have hn0 : (0 : Int) < (O.length : Int) := by have := List.length_pos_iff.2 hOn; omega
        clear hOn
        obtain ⟨⟨XA, xc9, xl⟩, hxr2, hlen, hq⟩ := leg_row HT.out (p := p) (by omega)
        obtain ⟨bl, fl, x', hAL, hbL, hx', hl09⟩ := (HIN.out.below ZB.out).rows.at_ (k := p) (by have := (List.getElem?_eq_some_iff.1 hxr2).1; exact this)
        obtain rfl : x' = ⟨XA, xc9, xl⟩ := by rw [hxr2] at hx'; injection hx' with hx'; exact hx'.symm
        dsimp only at hlen hq hl09
        obtain ⟨b3, f9, y9, hA3, hb39, hy, hy0⟩ := ((HIN.out.below ZB.out).vals _ (List.mem_of_getElem? hxr2)).1.at_ (k := 0) (by dsimp only; omega)
        dsimp only at hA3 hy
        have hleg := leg_in HT.out (i := (p : Int)) (j := 0) (by omega) (by omega) (by omega) (by omega)
        obtain rfl : legT (gOf R) p 0 = y9 := by have := hq 0 (by omega); rw [hy] at this; injection this with this; exact this.symm
        obtain ⟨L, hL⟩ : ∃ L, legT (gOf R) p 0 = L := ⟨_, rfl⟩
        rw [hL] at hleg hy0 hwe
        rw [Nat.add_zero] at hy0
        have hlen9 : (0 : Int) < (xl.length : Int) := by omega
        have hpl : (p : Int) < (R.length : Int) := by have := (List.getElem?_eq_some_iff.1 hxr2).1; omega
        clear hL hxr2 hx' hlen hq hy
        have hAL2 := hAL
        subst hA3
        have tc0 := has_cell HX_t.out 0 rfl; have tc1 := has_cell HX_t.out 1 rfl; have tc2 := has_cell HX_t.out 2 rfl; have tc3 := has_cell HX_t.out 3 rfl
        rw [hAL] at tc2
        go_wp2_with fail
        clear tc0 tc1 tc2 tc3
        clear hAL hAL2 hy0 hl09
        have hwa : IntKind.i64.wrap (f - b) = f - b := IntWalk.i64_in _ (by omega)
        have hwb : IntKind.i64.wrap (f - b - (l + L)) = f - b - (l + L) := IntWalk.i64_in _ (by omega)
        have hweq : (wt == IntKind.i64.wrap (IntKind.i64.wrap (f - b) - (l + L))) = true := by rw [hwa, hwb]; simp; omega
        have HWE := Lib.hid hweq; clear hweq hwa hwb
        have hxb9 : decide (b ≤ x2) = true := decide_eq_true hx0; have hff9 : decide (f6 ≤ f) = true := decide_eq_true hff; have hpr9 : decide (pk ≤ r) = true := decide_eq_true hpr
        clear hwe
        have tc0 := has_cell HX_t.out 0 rfl; have tc1 := has_cell HX_t.out 1 rfl; have tc2 := has_cell HX_t.out 2 rfl; have tc3 := has_cell HX_t.out 3 rfl
        try go_wp2_with fail
        have S0 : (fun W : World => (W.cell? ⟨Zt, 0, none⟩ = some (.int .i64 b) ∧ W.cell? ⟨Zt, 1, none⟩ = some (.int .i64 r) ∧ W.cell? ⟨Zt, 2, none⟩ = some (.slice AL R.length cL) ∧ W.cell? ⟨Zt, 3, none⟩ = some (.slice AS S.length cS)) ∧ Below wr.heap.size wr W) wr.drew := ⟨⟨tc0, tc1, tc2, tc3⟩, (Below.refl _ _).drew⟩
        have zd : Below w1.heap.size w1 wr.drew := ZB.out.drew
        clear tc0 tc1 tc2 tc3
        go_region_held3 (fun W : World => (W.cell? ⟨Zt, 0, none⟩ = some (.int .i64 b) ∧ W.cell? ⟨Zt, 1, none⟩ = some (.int .i64 r) ∧ W.cell? ⟨Zt, 2, none⟩ = some (.slice AL R.length cL) ∧ W.cell? ⟨Zt, 3, none⟩ = some (.slice AS S.length cS)) ∧ Below wr.heap.size wr W) (first | assumption) (first
          | (go_at_call 13; go_must (refine (peakW w1 wr.drew b r AL AS cL cS R S AO cO O HPK.out HIN.out HLO.out HIL.out zd).mono ?_); rintro e wr1 ⟨rfl, h1⟩; have hv1 : Below wr.heap.size wr wr1 := ((Below.refl wr.heap.size wr).drew).trans h1; have hz1 := hv1.size; have zr1 := bthen zd h1; have S1 : (fun W : World => (W.cell? ⟨Zt, 0, none⟩ = some (.int .i64 b) ∧ W.cell? ⟨Zt, 1, none⟩ = some (.int .i64 r) ∧ W.cell? ⟨Zt, 2, none⟩ = some (.slice AL R.length cL) ∧ W.cell? ⟨Zt, 3, none⟩ = some (.slice AS S.length cS)) ∧ Below wr.heap.size wr W) wr1 := ⟨⟨(bold hv1 _ _ (by omega)).trans S0.1.1, (bold hv1 _ _ (by omega)).trans S0.1.2.1, (bold hv1 _ _ (by omega)).trans S0.1.2.2.1, (bold hv1 _ _ (by omega)).trans S0.1.2.2.2⟩, hv1⟩)
          | (go_at_call 14; go_must (refine (waitW w1 wr1 b r AL AS cL cS R S AO cO O HWT.out HIN.out HLO.out HIL.out zr1).mono ?_); rintro e wr2 ⟨rfl, h2⟩; have hv2 : Below wr.heap.size wr wr2 := bthen hv1 h2; have hz2 := hv2.size; have zr2 := bthen zr1 h2; have S2 : (fun W : World => (W.cell? ⟨Zt, 0, none⟩ = some (.int .i64 b) ∧ W.cell? ⟨Zt, 1, none⟩ = some (.int .i64 r) ∧ W.cell? ⟨Zt, 2, none⟩ = some (.slice AL R.length cL) ∧ W.cell? ⟨Zt, 3, none⟩ = some (.slice AS S.length cS)) ∧ Below wr.heap.size wr W) wr2 := ⟨⟨(bold hv2 _ _ (by omega)).trans S0.1.1, (bold hv2 _ _ (by omega)).trans S0.1.2.1, (bold hv2 _ _ (by omega)).trans S0.1.2.2.1, (bold hv2 _ _ (by omega)).trans S0.1.2.2.2⟩, hv2⟩))
        have hb : Below wr.heap.size wr wr2 := hv2
        clear S0 S1 S2 zd hz2 hv2 h2 zr2 hz1 hv1 h1 zr1
        have kk := has_call HX_t.out hb; clear HX_t; have HX_t := Lib.hid kk; clear kk
        have kk := bthen ZB.out hb; clear ZB; have ZB := Lib.hid kk; clear kk
        have hswr2 := hb.size; clear hb
        go_wp2_with fail
        go_ret
        exact ⟨ret_bool HWE.out, HZ0.out.trans (ZB.out.mono hw01)⟩
end Go.Proofs.Ytmaclochdmndkaa
