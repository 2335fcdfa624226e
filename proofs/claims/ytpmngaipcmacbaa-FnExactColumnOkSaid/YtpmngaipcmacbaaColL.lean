/- Chapter 2: the walk of the law FnExactColumnOk, over the contracts of what it calls. -/
import Derived.Test.YtpmngaipcmacbaaColT
import Derived.Test.YtpmngaipcmacbaaColC
import Derived.Deep.RegionHeld3
import Derived.Deep.DeepMust
namespace Go.Proofs.Ytpmngaipcmacbaa
open Go.RowKit
set_option linter.unusedVariables false


set_option maxHeartbeats 1000000 in
theorem colLaw_walk (AF AB : Option Addr) (cF cB : Nat) (z : Int) (F : List Int) (L : List Bx) (w : World) (lf : F.length ≤ maxLen) (lb : L.length ≤ maxLen) (hS : IL w w.heap.size AF F) (hT : XL w w.heap.size AB L) :
    Calls Try.prog 3 #[.agg #[.int .i64 z, .slice AF F.length cF, .slice AB L.length cB]] w fun e w' => e = .returned (.bool true) ∧ Below w.heap.size w w' := by
  have HS := Lib.hid hS; clear hS
  have HT := Lib.hid hT; clear hT
  by_cases hbig : (1048576 : Int) < F.length + L.length
  · have hs : szC 1048576 F.length L.length = -1 := if_pos hbig
    have Hs := Lib.hid hs; clear hs
    go_enter Try.func3, Try.ntmps3
    go_wp2_with fail
    refine (szColumn_any _ AF AB F.length cF L.length cB z 1048576 lf lb (by omega) (by omega)).mono ?_
    rintro e w1 ⟨rfl, hb1⟩
    rw [Hs.out]
    go_wp2_with fail
    go_ret
    exact ⟨rfl, bthen (balloc _ _) hb1⟩
  · have hs : szC 1048576 F.length L.length = 1048576 - F.length - L.length := if_neg hbig
    have hf20 : F.length ≤ 1048576 := by omega
    have hb20 : L.length ≤ 1048576 := by omega
    have Hs := Lib.hid hs; clear hs
    go_enter Try.func3, Try.ntmps3
    go_wp2_with fail
    generalize hW0 : (w.alloc (.cells #[.int .i64 z, .slice AF F.length cF, .slice AB L.length cB] 25)) = w0
    have b0 : Below w.heap.size w w0 := by rw [← hW0]; exact balloc _ _
    have k0 : Has w0 w.heap.size 25 #[.int .i64 z, .slice AF F.length cF, .slice AB L.length cB] := by rw [← hW0]; exact has_new _ _ _
    clear hW0
    have e0 := has_cell k0 0 rfl
    have e1 := has_cell k0 1 rfl
    have e2 := has_cell k0 2 rfl
    have K0 := Lib.hid k0; clear k0
    refine (szColumn_any w0 AF AB F.length cF L.length cB z 1048576 lf lb (by omega) (by omega)).mono ?_
    rintro e w1 ⟨rfl, hb1⟩
    rw [Hs.out]
    clear e0 e1 e2
    have c1 := bthen b0 hb1
    have k1 := has_call K0.out hb1
    have e0 := has_cell k1 0 rfl
    have e1 := has_cell k1 1 rfl
    have e2 := has_cell k1 2 rfl
    have K1 := Lib.hid k1; clear k1
    go_wp2_with fail
    refine (toColumn_any w1 w.heap.size AF AB cF cB z F L hf20 hb20 c1.size (HS.out.below c1) (HT.out.below c1)).mono ?_
    rintro e w2 ⟨P2, Q2, n2, m2, rfl, hP2, hQ2, hb2⟩
    have HV2 := Lib.hid (show CV w2 w2.heap.size ⟨z, P2, F, n2, Q2, L, m2⟩ from ⟨hP2.il, hQ2.xl, lf, lb⟩); clear hP2 hQ2
    clear e0 e1 e2
    have c2 := bthen c1 hb2
    have k2 := has_call K1.out hb2
    have e0 := has_cell k2 0 rfl
    have e1 := has_cell k2 1 rfl
    have e2 := has_cell k2 2 rfl
    have K2 := Lib.hid k2; clear k2
    go_wp2_with fail
    refine (colS_any w2 w2.heap.size ⟨z, P2, F, n2, Q2, L, m2⟩ (Nat.le_refl _) HV2.out).mono ?_
    rintro e w3 ⟨q, rfl, hq, hb3⟩
    have HQ := Lib.hid hq; clear hq
    clear e0 e1 e2
    have c3 := bthen c2 hb3
    have k3 := has_call K2.out hb3
    have e0 := has_cell k3 0 rfl
    have e1 := has_cell k3 1 rfl
    have e2 := has_cell k3 2 rfl
    have K3 := Lib.hid k3; clear k3
    go_wp2_with fail
    refine (toColumn_any w3 w.heap.size AF AB cF cB z F L hf20 hb20 c3.size (HS.out.below c3) (HT.out.below c3)).mono ?_
    rintro e w4 ⟨P4, Q4, n4, m4, rfl, hP4, hQ4, hb4⟩
    have HV4 := Lib.hid (show CV w4 w4.heap.size ⟨z, P4, F, n4, Q4, L, m4⟩ from ⟨hP4.il, hQ4.xl, lf, lb⟩); clear hP4 hQ4
    clear e0 e1 e2
    have c4 := bthen c3 hb4
    have k4 := has_call K3.out hb4
    have e0 := has_cell k4 0 rfl
    have e1 := has_cell k4 1 rfl
    have e2 := has_cell k4 2 rfl
    have K4 := Lib.hid k4; clear k4
    go_wp2_with fail
    generalize hX : (w4.alloc (.cells #[.int .i64 z, .slice P4 F.length n4, .slice Q4 L.length m4] 30)) = x4
    have bx : Below w4.heap.size w4 x4 := by rw [← hX]; exact balloc _ _
    have kx : Has x4 w4.heap.size 30 #[.int .i64 z, .slice P4 F.length n4, .slice Q4 L.length m4] := by rw [← hX]; exact has_new _ _ _
    clear hX
    clear e0 e1 e2
    have cx := bthen c4 bx
    have kk := has_call K4.out bx
    have e0 := has_cell kk 0 rfl
    have e1 := has_cell kk 1 rfl
    have e2 := has_cell kk 2 rfl
    have x0 := has_cell kx 0 rfl
    have x1 := has_cell kx 1 rfl
    have x2 := has_cell kx 2 rfl
    have KK := Lib.hid kk; clear kk
    have KX := Lib.hid kx; clear kx
    try go_wp2_with fail
    refine (colI_any x4 w4.heap.size ⟨z, P4, F, n4, Q4, L, m4⟩ bx.size (HV4.out.later (Nat.le_refl _) bx)).mono ?_
    rintro e w5 ⟨q', rfl, hq', hb5⟩
    obtain rfl : q = q' := by
      have h1 := HQ.out
      dsimp only at h1 hq'
      cases q <;> cases q' <;> simp_all
    clear hq' 
    have hqq : (q != q) = false := by simp
    clear e0 e1 e2
    have c5 := bthen cx hb5
    have k5 := has_call KK.out hb5
    have e0 := has_cell k5 0 rfl
    have e1 := has_cell k5 1 rfl
    have e2 := has_cell k5 2 rfl
    have K5 := Lib.hid k5; clear k5
    clear x0 x1 x2
    have x0 := has_cell (has_call KX.out hb5) 0 rfl
    have x1 := has_cell (has_call KX.out hb5) 1 rfl
    have x2 := has_cell (has_call KX.out hb5) 2 rfl
    try go_wp2_with fail
    have c5d : Below w.heap.size w w5.drew := c5.drew
    have S0 : (fun W : World => (W.cell? ⟨w.heap.size, 0, none⟩ = some (.int .i64 z) ∧ W.cell? ⟨w.heap.size, 1, none⟩ = some (.slice AF F.length cF) ∧ W.cell? ⟨w.heap.size, 2, none⟩ = some (.slice AB L.length cB) ∧ W.cell? ⟨w4.heap.size, 0, none⟩ = some (.int .i64 z) ∧ W.cell? ⟨w4.heap.size, 1, none⟩ = some (.slice P4 F.length n4) ∧ W.cell? ⟨w4.heap.size, 2, none⟩ = some (.slice Q4 L.length m4)) ∧ Below w5.heap.size w5 W) w5.drew := ⟨⟨e0, e1, e2, x0, x1, x2⟩, (Below.refl _ _).drew⟩
    have C5 := Lib.hid c5; clear c5
    have HB5 := Lib.hid hb5; clear hb5
    clear cx c4 hb4 hb1 hb2 hb3 c1 c2 c3
    have BX := Lib.hid bx; clear bx
    have hzx : w4.heap.size < x4.heap.size := has_lt KX.out
    have hz5 := HB5.out.size
    have hz6 := C5.out.size
    have hzk : w.heap.size < w5.heap.size := has_lt K5.out
    clear e0 e1 e2 x0 x1 x2
    go_region_held3 (fun W : World => (W.cell? ⟨w.heap.size, 0, none⟩ = some (.int .i64 z) ∧ W.cell? ⟨w.heap.size, 1, none⟩ = some (.slice AF F.length cF) ∧ W.cell? ⟨w.heap.size, 2, none⟩ = some (.slice AB L.length cB) ∧ W.cell? ⟨w4.heap.size, 0, none⟩ = some (.int .i64 z) ∧ W.cell? ⟨w4.heap.size, 1, none⟩ = some (.slice P4 F.length n4) ∧ W.cell? ⟨w4.heap.size, 2, none⟩ = some (.slice Q4 L.length m4)) ∧ Below w5.heap.size w5 W) (first | assumption) (first
      | (go_at_call 17; go_must (refine (toColumn_any w5.drew w.heap.size AF AB cF cB z F L hf20 hb20 c5d.size (HS.out.below c5d) (HT.out.below c5d)).mono ?_); rintro e w6 ⟨P6, Q6, n6, m6, rfl, hP6, hQ6, hb6⟩; have HP6 := Lib.hid hP6.il; have HQ6 := Lib.hid hQ6.xl; clear hP6 hQ6; have hb56 : Below w5.heap.size w5 w6 := ((Below.refl w5.heap.size w5).drew).trans hb6; have hz56 := hb56.size; clear hb6; have S6 : (fun W : World => (W.cell? ⟨w.heap.size, 0, none⟩ = some (.int .i64 z) ∧ W.cell? ⟨w.heap.size, 1, none⟩ = some (.slice AF F.length cF) ∧ W.cell? ⟨w.heap.size, 2, none⟩ = some (.slice AB L.length cB) ∧ W.cell? ⟨w4.heap.size, 0, none⟩ = some (.int .i64 z) ∧ W.cell? ⟨w4.heap.size, 1, none⟩ = some (.slice P4 F.length n4) ∧ W.cell? ⟨w4.heap.size, 2, none⟩ = some (.slice Q4 L.length m4)) ∧ Below w5.heap.size w5 W) w6 := ⟨⟨(bold hb56 _ _ (by omega)).trans S0.1.1, (bold hb56 _ _ (by omega)).trans S0.1.2.1, (bold hb56 _ _ (by omega)).trans S0.1.2.2.1, (bold hb56 _ _ (by omega)).trans S0.1.2.2.2.1, (bold hb56 _ _ (by omega)).trans S0.1.2.2.2.2.1, (bold hb56 _ _ (by omega)).trans S0.1.2.2.2.2.2⟩, hb56⟩)
      | (go_at_call 19; go_must (refine (eqColumn_any w6 w4.heap.size w6.heap.size P4 Q4 P6 Q6 n4 m4 n6 m6 z F L lf lb (by omega) (Nat.le_refl _) (HV4.out.f.below (BX.out.trans ((HB5.out.trans (hb56.mono hz5)).mono BX.out.size))) (HV4.out.b.below (BX.out.trans ((HB5.out.trans (hb56.mono hz5)).mono BX.out.size))) HP6.out HQ6.out).mono ?_); rintro e w7 ⟨rfl, hb7⟩; have hb57 := bthen hb56 hb7; have S7 : (fun W : World => (W.cell? ⟨w.heap.size, 0, none⟩ = some (.int .i64 z) ∧ W.cell? ⟨w.heap.size, 1, none⟩ = some (.slice AF F.length cF) ∧ W.cell? ⟨w.heap.size, 2, none⟩ = some (.slice AB L.length cB) ∧ W.cell? ⟨w4.heap.size, 0, none⟩ = some (.int .i64 z) ∧ W.cell? ⟨w4.heap.size, 1, none⟩ = some (.slice P4 F.length n4) ∧ W.cell? ⟨w4.heap.size, 2, none⟩ = some (.slice Q4 L.length m4)) ∧ Below w5.heap.size w5 W) w7 := ⟨⟨(bold hb57 _ _ (by omega)).trans S0.1.1, (bold hb57 _ _ (by omega)).trans S0.1.2.1, (bold hb57 _ _ (by omega)).trans S0.1.2.2.1, (bold hb57 _ _ (by omega)).trans S0.1.2.2.2.1, (bold hb57 _ _ (by omega)).trans S0.1.2.2.2.2.1, (bold hb57 _ _ (by omega)).trans S0.1.2.2.2.2.2⟩, hb57⟩))
    go_wp2_with fail
    go_ret
    exact ⟨rfl, C5.out.trans (Below.mono hb57 hz6)⟩
end Go.Proofs.Ytpmngaipcmacbaa
