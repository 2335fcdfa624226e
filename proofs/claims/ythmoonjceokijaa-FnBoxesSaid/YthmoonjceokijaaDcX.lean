/- Chapter 2: the law FnBoxes: the draw and the walk (gen_bxw.py). -/
import Derived.Test.YthmoonjceokijaaDcC
import Derived.Test.YthmoonjceokijaaGapT
import Derived.Deep.RegionHeld3
import Derived.Deep.RegionWith
import Derived.Deep.DeepMust
import Derived.WalkLawsBesides
namespace Go.Proofs.Ythmoonjceokijaa
open Go.RowKit
set_option linter.unusedVariables false
/-- the draw of a column, a parcel and a size for a law -/
def DrwP (w : World) (e : Ending) (w' : World) : Prop := ∃ (x : Cl) (p s : Int), e = .returned (.tuple #[.agg #[.int .i64 x.z, .slice x.AF x.F.length x.cF, .slice x.AB x.L.length x.cB], .int .i64 p, .int .i64 s]) ∧ 0 ≤ s ∧ s ≤ 5 ∧ x.F.length ≤ 2 ∧ x.L.length ≤ 24 ∧ IL w' w'.heap.size x.AF x.F ∧ XL w' w'.heap.size x.AB x.L ∧ Below w.heap.size w w'
set_option maxRecDepth 100000 in
set_option maxHeartbeats 4000000 in
theorem drawP_any (w : World) (A : Option Addr) (n c : Nat) (hn : n ≤ maxLen) (hS : BS w w.heap.size A n) : Calls Try.prog 6 #[.slice A n c] w (DrwP w) := by
  have HS := Lib.hid hS; clear hS
  go_enter Try.func6, Try.ntmps6
  go_wp2_with fail
  generalize hX : (w.alloc (.cells #[.int .i64 0, .slice none 0 0, .slice none 0 0] 27)) = w1
  have zb : Below w.heap.size w w1 := by rw [← hX]; exact balloc _ _
  have zr : Has w1 w.heap.size 27 #[.int .i64 0, .slice none 0 0, .slice none 0 0] := by rw [← hX]; exact has_new _ _ _
  clear hX
  have hl1 := has_lt zr
  refine (new_any w1 w.heap.size A n c hn (by omega) (HS.out.below zb)).mono ?_
  rintro e w2 ⟨rfl, hC, hb⟩
  have zr2 := has_call zr hb; have zb2 := bthen zb hb; have hs2 := hb.size; have hg2 := hC.lt.2
  have HC := Lib.hid hC; clear hC hb zr zb
  go_wp2_with fail
  refine (anyC_any w2 w.heap.size w1.heap.size HC.out).mono ?_
  rintro e w3 ⟨z, F, L, A1, A2, n1, n2, rfl, ⟨hF, hL⟩, or1, or2, hC9, hO9⟩
  have zr3 := has_only zr2 hO9 (by omega)
  have zb3 := zb2.trans (only_below hO9 (by omega) (by omega))
  have hgs := hC9.lt.2
  have RF := Lib.hid or1; have RL := Lib.hid or2; have HC := Lib.hid hC9; clear zr2 zb2 or1 or2 hC9 hO9
  go_wp2_with fail
  generalize hX : (w3.alloc (.cells #[.int .i64 z, .slice A1 F.length n1, .slice A2 L.length n2] 27)).alloc (.cells #[.int .i64 1, .int .i64 2, .int .i64 3, .int .i64 7, .int .i64 8, .int .i64 999, .int .i64 1000, .int .i64 0, .int .i64 (-1)] 3) = w4
  have hb : Below w3.heap.size w3 w4 := by rw [← hX]; exact bthen (balloc _ _) (balloc _ _)
  have zx : Has w4 w3.heap.size 27 #[.int .i64 z, .slice A1 F.length n1, .slice A2 L.length n2] := by rw [← hX]; exact has_alloc (has_new _ _ _) _
  have zl : Has w4 (w3.heap.size + 1) 3 #[.int .i64 1, .int .i64 2, .int .i64 3, .int .i64 7, .int .i64 8, .int .i64 999, .int .i64 1000, .int .i64 0, .int .i64 (-1)] := by rw [← hX]; have := has_new (w3.alloc (.cells #[.int .i64 z, .slice A1 F.length n1, .slice A2 L.length n2] 27)) 3 #[.int .i64 1, .int .i64 2, .int .i64 3, .int .i64 7, .int .i64 8, .int .i64 999, .int .i64 1000, .int .i64 0, .int .i64 (-1)]; simpa using this
  clear hX
  have zr4 := has_call zr3 hb; have zb4 := bthen zb3 hb
  have kk := HC.out.belC hb; clear HC; have HC := Lib.hid kk; clear kk
  have kk := OQ.below RF.out hb; clear RF; have RF := Lib.hid kk; clear kk
  have kk := OR.below RL.out hb; clear RL; have RL := Lib.hid kk; clear kk
  have hs4 := hb.size; clear hb zr3 zb3
  refine (pickInt_any w4 w.heap.size w1.heap.size (w3.heap.size + 1) 9 _ (-1) 1000 HC.out zl rfl (by omega) (by omega) (by omega) (by intro j hj; rcases j with _ | _ | _ | _ | _ | _ | _ | _ | _ | j; exact ⟨_, by omega, by omega, rfl⟩; exact ⟨_, by omega, by omega, rfl⟩; exact ⟨_, by omega, by omega, rfl⟩; exact ⟨_, by omega, by omega, rfl⟩; exact ⟨_, by omega, by omega, rfl⟩; exact ⟨_, by omega, by omega, rfl⟩; exact ⟨_, by omega, by omega, rfl⟩; exact ⟨_, by omega, by omega, rfl⟩; exact ⟨_, by omega, by omega, rfl⟩; omega)).mono ?_
  rintro e w5 ⟨p, hp0, hp1, rfl, hC9, hO9⟩
  have zr5 := has_only zr4 hO9 (by omega); have zx5 := has_only zx hO9 (by omega)
  have zb5 := zb4.trans (only_below hO9 (by omega) (by omega))
  have kk := oq_only RF.out hO9 (by omega); clear RF; have RF := Lib.hid kk; clear kk
  have kk := or_only RL.out hO9 (by omega); clear RL; have RL := Lib.hid kk; clear kk
  have hs5 := hO9.size
  clear HC; have HC := Lib.hid hC9; clear hC9 hO9 zl zx zr4 zb4
  have ZR := Lib.hid zr5; have ZX := Lib.hid zx5; have ZB := Lib.hid zb5; clear zr5 zx5 zb5
  have hne1 : ¬ w.heap.size = w3.heap.size := by omega
  have hne2 : ¬ w3.heap.size = w.heap.size := by omega
  have c0 := has_cell (has_drew ZX.out) 0 rfl; have c1 := has_cell (has_drew ZX.out) 1 rfl; have c2 := has_cell (has_drew ZX.out) 2 rfl
  go_upto_region 4 with fail
  go_region_with (go_at_call 24; refine (below_any w5.drew w.heap.size w1.heap.size 6 (by omega) (by omega) HC.out.drew).mono ?_; rintro e w6 ⟨s, hs0, hs1, rfl, hC9, hO9⟩; have zr6 := has_only (has_drew ZR.out) hO9 (by omega); have zx6 := has_only (has_drew ZX.out) hO9 (by omega); have rf6 := oq_only (oq_drewC RF.out) hO9 (by omega); have rl6 := or_only (or_drewC RL.out) hO9 (by omega); have zb6 := ZB.out.drew.trans (only_below hO9 (B := w.heap.size) (by show w.heap.size ≤ w5.heap.size; omega) (by omega)); have d0 := has_cell zx6 0 rfl; have d1 := has_cell zx6 1 rfl; have d2 := has_cell zx6 2 rfl; have y0 := has_cell zr6 0 rfl; have y1 := has_cell zr6 1 rfl; have y2 := has_cell zr6 2 rfl; have f0 := has_free zr6 0; have f1 := has_free zr6 1; have f2 := has_free zr6 2; have hl6 := has_lt zr6; have ZR6 := Lib.hid zr6; have RF6 := Lib.hid rf6; have RL6 := Lib.hid rl6; have ZB6 := Lib.hid zb6; clear zr6 zx6 rf6 rl6 zb6 hC9 hO9)
  all_goals (go_wp2_with fail)
  all_goals
    have X1 := set3 (u := .int .i64 z) (v := .slice A1 F.length n1) (x := .slice A2 L.length n2) ZR6.out
    have g0 := has_cell X1 0 rfl; have g1 := has_cell X1 1 rfl; have g2 := has_cell X1 2 rfl
    have q1 := (oq_set3 RF6.out ZR6.out (by decide) (.int .i64 z) (.slice A1 F.length n1) (.slice A2 L.length n2)).il
    have q2 := (or_set3 RL6.out ZR6.out (by decide) (.int .i64 z) (.slice A1 F.length n1) (.slice A2 L.length n2)).xl
    have q3 := ((ZB6.out.setCell (p := ⟨w.heap.size, 0, none⟩) (Nat.le_refl _) (.int .i64 z)).setCell (p := ⟨w.heap.size, 1, none⟩) (Nat.le_refl _) (.slice A1 F.length n1)).setCell (p := ⟨w.heap.size, 2, none⟩) (Nat.le_refl _) (.slice A2 L.length n2)
    exact bodyPost_ret (v := .tuple #[.agg #[.int .i64 z, .slice A1 F.length n1, .slice A2 L.length n2], .int .i64 p, .int .i64 s]) (by simp [results, Try.results6, go_sem, g0, g1, g2]) rfl ⟨⟨z, A1, F, n1, A2, L, n2⟩, p, s, rfl, hs0, (by omega), hF, hL, q1, q2, q3⟩

theorem keep12B {w0 W W' : World} {q1 q2 q3 q4 : Nat} {a1 b1 c1 a2 b2 c2 a3 b3 c3 a4 b4 c4 : Value} (h1 : q1 < w0.heap.size) (h2 : q2 < w0.heap.size) (h3 : q3 < w0.heap.size) (h4 : q4 < w0.heap.size) (k : (W.cell? ⟨q1, 0, none⟩ = some a1 ∧ W.cell? ⟨q1, 1, none⟩ = some b1 ∧ W.cell? ⟨q1, 2, none⟩ = some c1 ∧ W.cell? ⟨q2, 0, none⟩ = some a2 ∧ W.cell? ⟨q2, 1, none⟩ = some b2 ∧ W.cell? ⟨q2, 2, none⟩ = some c2 ∧ W.cell? ⟨q3, 0, none⟩ = some a3 ∧ W.cell? ⟨q3, 1, none⟩ = some b3 ∧ W.cell? ⟨q3, 2, none⟩ = some c3 ∧ W.cell? ⟨q4, 0, none⟩ = some a4 ∧ W.cell? ⟨q4, 1, none⟩ = some b4 ∧ W.cell? ⟨q4, 2, none⟩ = some c4) ∧ Below w0.heap.size w0 W) (hb : Below W.heap.size W W') :
    (W'.cell? ⟨q1, 0, none⟩ = some a1 ∧ W'.cell? ⟨q1, 1, none⟩ = some b1 ∧ W'.cell? ⟨q1, 2, none⟩ = some c1 ∧ W'.cell? ⟨q2, 0, none⟩ = some a2 ∧ W'.cell? ⟨q2, 1, none⟩ = some b2 ∧ W'.cell? ⟨q2, 2, none⟩ = some c2 ∧ W'.cell? ⟨q3, 0, none⟩ = some a3 ∧ W'.cell? ⟨q3, 1, none⟩ = some b3 ∧ W'.cell? ⟨q3, 2, none⟩ = some c3 ∧ W'.cell? ⟨q4, 0, none⟩ = some a4 ∧ W'.cell? ⟨q4, 1, none⟩ = some b4 ∧ W'.cell? ⟨q4, 2, none⟩ = some c4) ∧ Below w0.heap.size w0 W' := by
  have hs := k.2.size
  have e : ∀ q i, q < w0.heap.size → W'.cell? ⟨q, i, none⟩ = W.cell? ⟨q, i, none⟩ := fun q i hq => hb.cell (p := ⟨q, i, none⟩) (show q < _ by omega)
  obtain ⟨⟨k0, k1, k2, k3, k4, k5, k6, k7, k8, k9, k10, k11⟩, k12⟩ := k
  exact ⟨⟨(e q1 0 h1).trans k0, (e q1 1 h1).trans k1, (e q1 2 h1).trans k2, (e q2 0 h2).trans k3, (e q2 1 h2).trans k4, (e q2 2 h2).trans k5, (e q3 0 h3).trans k6, (e q3 1 h3).trans k7, (e q3 2 h3).trans k8, (e q4 0 h4).trans k9, (e q4 1 h4).trans k10, (e q4 2 h4).trans k11⟩, k12.trans (hb.mono hs)⟩
theorem cvB {w : World} {z : Int} {A1 A2 : Option Addr} {F : List Int} {L : List Bx} {n1 n2 : Nat} (h1 : IL w w.heap.size A1 F) (h2 : XL w w.heap.size A2 L) (hf : F.length ≤ 1048576) (hl : L.length ≤ 1048576) : CV w w.heap.size ⟨z, A1, F, n1, A2, L, n2⟩ := ⟨h1, h2, by show F.length ≤ maxLen; unfold maxLen; omega, by show L.length ≤ maxLen; unfold maxLen; omega⟩
set_option maxRecDepth 100000 in
set_option maxHeartbeats 16000000 in
theorem boxes_walk (w : World) (A : Option Addr) (na ca : Nat) (hn : na ≤ maxLen) (hS : BS w w.heap.size A na) : Calls Try.prog 3 #[.slice A na ca] w fun e w' => e = .returned (.bool true) ∧ Below w.heap.size w w' := by
  have HS := Lib.hid hS; clear hS
  have HBG := Lib.hid (fun W => big_any W A na ca hn)
  have HDR := Lib.hid (fun W (h : BS W W.heap.size A na) => drawP_any W A na ca hn h)
  clear hn
  by_cases hbig : (1048576 : Int) < na
  · have hd : decide ((1048576 : Int) < na) = true := by simpa using hbig
    have HD := Lib.hid hd; clear hd
    go_enter Try.func3, Try.ntmps3
    go_wp2_with (refine (HBG.out _).mono ?_; rintro e w' ⟨rfl, hw⟩; rw [hw, HD.out]; clear hw)
    go_ret
    exact ⟨rfl, Below.refl _ _⟩
  have hd : decide ((1048576 : Int) < na) = false := by simpa using hbig
  have HD := Lib.hid hd; clear hd hbig
  go_enter Try.func3, Try.ntmps3
  go_wp2_with (go_at_call 5; refine (HBG.out _).mono ?_; rintro e w' ⟨rfl, hw⟩; rw [hw, HD.out]; clear hw)
  refine (HDR.out w HS.out).mono ?_
  rintro e w1 ⟨x, p, s, rfl, hs0, hs1, hF, hL, q1, q2, hb0⟩
  have HV := Lib.hid (CV.mk q1 q2 (by unfold maxLen; omega) (by unfold maxLen; omega) : CV w1 w1.heap.size x)
  have HZ0 := Lib.hid hb0; have hw01 := hb0.size; clear hb0 q1 q2 HBG HDR HS
  have hF1 : x.F.length ≤ 1048576 := by omega
  have hL1 : x.L.length ≤ 1048576 := by omega
  go_wp2_with fail
  generalize hX : (w1.alloc (.cells #[.int .i64 x.z, .slice x.AF x.F.length x.cF, .slice x.AB x.L.length x.cB] 27)) = w2
  have hb : Below w1.heap.size w1 w2 := by rw [← hX]; exact balloc _ _
  have hk : Has w2 w1.heap.size 27 #[.int .i64 x.z, .slice x.AF x.F.length x.cF, .slice x.AB x.L.length x.cB] := by rw [← hX]; exact has_new _ _ _
  clear hX
  have ZB := Lib.hid hb; have hs2 := hb.size; have ZC := Lib.hid hk; clear hb hk
  refine (putI_any w2 w1.heap.size x p s hF1 hL1 ZB.out.size (HV.out.later (Nat.le_refl _) ZB.out)).mono ?_
  rintro e w3 ⟨z1, F1, L1, low, fl, A2, A3, n2, n3, rfl, hR1, hf1, hl1, or2, or3, hb⟩
  have X1 := Lib.hid or2.il; have X2 := Lib.hid or3.xl; clear or2 or3
  have HR1 := Lib.hid hR1; clear hR1
  have kk := has_call ZC.out hb; clear ZC; have ZC := Lib.hid kk; clear kk
  have kk := bthen ZB.out hb; clear ZB; have ZB := Lib.hid kk; clear kk
  have hsw3 := hb.size; clear hb
  have hlw3 := has_lt ZC.out
  have zcc0 := has_cell ZC.out 0 rfl; have zcc1 := has_cell ZC.out 1 rfl; have zcc2 := has_cell ZC.out 2 rfl; have zclt := has_lt ZC.out
  go_wp2_with fail
  clear zcc0 zcc1 zcc2 zclt
  generalize hX : (w3.alloc (.cells #[.int .i64 z1, .slice A2 F1.length n2, .slice A3 L1.length n3] 27)) = w4
  have hb : Below w3.heap.size w3 w4 := by rw [← hX]; exact balloc _ _
  have hk : Has w4 w3.heap.size 27 #[.int .i64 z1, .slice A2 F1.length n2, .slice A3 L1.length n3] := by rw [← hX]; exact has_new _ _ _
  clear hX
  have kk := has_call ZC.out hb; clear ZC; have ZC := Lib.hid kk; clear kk
  have kk := (X1.out.below hb).more hb.size; clear X1; have X1 := Lib.hid kk; clear kk
  have kk := (X2.out.below hb).more hb.size; clear X2; have X2 := Lib.hid kk; clear kk
  have kk := bthen ZB.out hb; clear ZB; have ZB := Lib.hid kk; clear kk
  have hsw4 := hb.size; clear hb
  have hlw4 := has_lt ZC.out
  have ZX := Lib.hid hk; clear hk; have hlZXw4 := has_lt ZX.out
  refine (putS_any w4 w1.heap.size x p s hF1 hL1 ZB.out.size (HV.out.later (Nat.le_refl _) ZB.out)).mono ?_
  rintro e w5 ⟨z9, F9, L9, low9, fl9, A4, A5, n4, n5, rfl, hR2, _, _, or2, or3, hb⟩
  have Y1 := Lib.hid or2.il; have Y2 := Lib.hid or3.xl; clear or2 or3
  obtain ⟨rfl, rfl, rfl, rfl, rfl⟩ := put_det HR1.out hR2; clear hR2
  have kk := has_call ZC.out hb; clear ZC; have ZC := Lib.hid kk; clear kk
  have kk := has_call ZX.out hb; clear ZX; have ZX := Lib.hid kk; clear kk
  have kk := (X1.out.below hb).more hb.size; clear X1; have X1 := Lib.hid kk; clear kk
  have kk := (X2.out.below hb).more hb.size; clear X2; have X2 := Lib.hid kk; clear kk
  have kk := bthen ZB.out hb; clear ZB; have ZB := Lib.hid kk; clear kk
  have hsw5 := hb.size; clear hb
  have hlw5 := has_lt ZC.out
  have zcc0 := has_cell ZC.out 0 rfl; have zcc1 := has_cell ZC.out 1 rfl; have zcc2 := has_cell ZC.out 2 rfl; have zclt := has_lt ZC.out
  have zxc0 := has_cell ZX.out 0 rfl; have zxc1 := has_cell ZX.out 1 rfl; have zxc2 := has_cell ZX.out 2 rfl; have zxlt := has_lt ZX.out
  have nf : (fl != fl) = false := by simp
  have nl : (low != low) = false := by simp
  go_wp2_with fail
  clear zcc0 zcc1 zcc2 zxc0 zxc1 zxc2 zclt zxlt
  generalize hX : (w5.alloc (.cells #[.int .i64 z1, .slice A4 F1.length n4, .slice A5 L1.length n5] 27)) = w6
  have hb : Below w5.heap.size w5 w6 := by rw [← hX]; exact balloc _ _
  have hk : Has w6 w5.heap.size 27 #[.int .i64 z1, .slice A4 F1.length n4, .slice A5 L1.length n5] := by rw [← hX]; exact has_new _ _ _
  clear hX
  have kk := has_call ZC.out hb; clear ZC; have ZC := Lib.hid kk; clear kk
  have kk := has_call ZX.out hb; clear ZX; have ZX := Lib.hid kk; clear kk
  have kk := (X1.out.below hb).more hb.size; clear X1; have X1 := Lib.hid kk; clear kk
  have kk := (X2.out.below hb).more hb.size; clear X2; have X2 := Lib.hid kk; clear kk
  have kk := (Y1.out.below hb).more hb.size; clear Y1; have Y1 := Lib.hid kk; clear kk
  have kk := (Y2.out.below hb).more hb.size; clear Y2; have Y2 := Lib.hid kk; clear kk
  have kk := bthen ZB.out hb; clear ZB; have ZB := Lib.hid kk; clear kk
  have hsw6 := hb.size; clear hb
  have hlw6 := has_lt ZC.out
  have ZY := Lib.hid hk; clear hk; have hlZYw6 := has_lt ZY.out
  refine (sameC_any w6 w6.heap.size w6.heap.size z1 A2 A3 A4 A5 n2 n3 n4 n5 F1 L1 hf1 hl1 (Nat.le_refl _) (Nat.le_refl _) X1.out X2.out Y1.out Y2.out).mono ?_
  rintro e w7 ⟨rfl, hb⟩
  have kk := has_call ZC.out hb; clear ZC; have ZC := Lib.hid kk; clear kk
  have kk := has_call ZX.out hb; clear ZX; have ZX := Lib.hid kk; clear kk
  have kk := has_call ZY.out hb; clear ZY; have ZY := Lib.hid kk; clear kk
  have kk := (X1.out.below hb).more hb.size; clear X1; have X1 := Lib.hid kk; clear kk
  have kk := (X2.out.below hb).more hb.size; clear X2; have X2 := Lib.hid kk; clear kk
  have kk := (Y1.out.below hb).more hb.size; clear Y1; have Y1 := Lib.hid kk; clear kk
  have kk := (Y2.out.below hb).more hb.size; clear Y2; have Y2 := Lib.hid kk; clear kk
  have kk := bthen ZB.out hb; clear ZB; have ZB := Lib.hid kk; clear kk
  have hsw7 := hb.size; clear hb
  have hlw7 := has_lt ZC.out
  clear nf nl
  cases fl
  · obtain ⟨rfl, rfl, rfl, rfl⟩ := box_no HR1.out
    have zcc0 := has_cell ZC.out 0 rfl; have zcc1 := has_cell ZC.out 1 rfl; have zcc2 := has_cell ZC.out 2 rfl; have zclt := has_lt ZC.out
    have zxc0 := has_cell ZX.out 0 rfl; have zxc1 := has_cell ZX.out 1 rfl; have zxc2 := has_cell ZX.out 2 rfl; have zxlt := has_lt ZX.out
    have zyc0 := has_cell ZY.out 0 rfl; have zyc1 := has_cell ZY.out 1 rfl; have zyc2 := has_cell ZY.out 2 rfl; have zylt := has_lt ZY.out
    go_wp2_with fail
    clear zcc0 zcc1 zcc2 zxc0 zxc1 zxc2 zyc0 zyc1 zyc2 zclt zxlt zylt
    refine (sameC_any w7 w7.heap.size w7.heap.size x.z A2 A3 x.AF x.AB n2 n3 x.cF x.cB x.F x.L hF1 hL1 (Nat.le_refl _) (Nat.le_refl _) X1.out X2.out ((HV.out.later (Nat.le_refl _) ZB.out).f.more ZB.out.size) ((HV.out.later (Nat.le_refl _) ZB.out).b.more ZB.out.size)).mono ?_
    rintro e w8 ⟨rfl, hb⟩
    go_wp2_with fail
    go_ret
    exact ⟨rfl, HZ0.out.trans ((bthen ZB.out hb).mono hw01)⟩
  obtain ⟨rfl, rfl, hp, nb, hok1, hm1, hp1, hj1, hu1, hall⟩ := box_facts HR1.out
  have htn := fun (z' : Int) (F' : List Int) (L' : List Bx) (q : Bool) (h : takeR x.z x.F L1 p z' F' L' q) => take_new hok1 hm1 hp1 hp hj1 hu1 h
  have HALL := Lib.hid hall; have HTN := Lib.hid htn; clear htn
  clear hall hok1 hm1 hu1 X1 X2
  have zcc0 := has_cell ZC.out 0 rfl; have zcc1 := has_cell ZC.out 1 rfl; have zcc2 := has_cell ZC.out 2 rfl; have zclt := has_lt ZC.out
  have zxc0 := has_cell ZX.out 0 rfl; have zxc1 := has_cell ZX.out 1 rfl; have zxc2 := has_cell ZX.out 2 rfl; have zxlt := has_lt ZX.out
  have zyc0 := has_cell ZY.out 0 rfl; have zyc1 := has_cell ZY.out 1 rfl; have zyc2 := has_cell ZY.out 2 rfl; have zylt := has_lt ZY.out
  go_wp2_with fail
  clear zcc0 zcc1 zcc2 zxc0 zxc1 zxc2 zyc0 zyc1 zyc2 zclt zxlt zylt
  have hti := takeI_any w7 w7.heap.size ⟨x.z, A4, x.F, n4, A5, L1, n5⟩ p hF1 hl1 (Nat.le_refl _) (cvB Y1.out Y2.out hF1 hl1)
  dsimp only at hti
  refine hti.mono ?_
  clear hti
  rintro e w8 ⟨z2, F2, L2, q2, A6, A7, n6, n7, rfl, hR2, hf2, hl2, or2, or3, hb⟩
  obtain ⟨rfl, rfl, rfl, j, hj, hL2⟩ := HTN.out _ _ _ _ hR2
  obtain ⟨hno, hbf⟩ := HALL.out j L2 hj hL2
  clear hR2 hj hL2 HALL HTN
  have E1 := Lib.hid or2.il; have E2 := Lib.hid or3.xl; clear or2 or3
  have HBF := Lib.hid hbf; have HNO := Lib.hid hno; clear hbf hno
  have kk := has_call ZC.out hb; clear ZC; have ZC := Lib.hid kk; clear kk
  have kk := has_call ZX.out hb; clear ZX; have ZX := Lib.hid kk; clear kk
  have kk := has_call ZY.out hb; clear ZY; have ZY := Lib.hid kk; clear kk
  have kk := (Y1.out.below hb).more hb.size; clear Y1; have Y1 := Lib.hid kk; clear kk
  have kk := (Y2.out.below hb).more hb.size; clear Y2; have Y2 := Lib.hid kk; clear kk
  have kk := bthen ZB.out hb; clear ZB; have ZB := Lib.hid kk; clear kk
  have hsw8 := hb.size; clear hb
  have hlw8 := has_lt ZC.out
  have zcc0 := has_cell ZC.out 0 rfl; have zcc1 := has_cell ZC.out 1 rfl; have zcc2 := has_cell ZC.out 2 rfl; have zclt := has_lt ZC.out
  have zxc0 := has_cell ZX.out 0 rfl; have zxc1 := has_cell ZX.out 1 rfl; have zxc2 := has_cell ZX.out 2 rfl; have zxlt := has_lt ZX.out
  have zyc0 := has_cell ZY.out 0 rfl; have zyc1 := has_cell ZY.out 1 rfl; have zyc2 := has_cell ZY.out 2 rfl; have zylt := has_lt ZY.out
  go_wp2_with fail
  clear zcc0 zcc1 zcc2 zxc0 zxc1 zxc2 zyc0 zyc1 zyc2 zclt zxlt zylt
  generalize hX : (w8.alloc (.cells #[.int .i64 x.z, .slice A6 x.F.length n6, .slice A7 L2.length n7] 27)) = w9
  have hb : Below w8.heap.size w8 w9 := by rw [← hX]; exact balloc _ _
  have hk : Has w9 w8.heap.size 27 #[.int .i64 x.z, .slice A6 x.F.length n6, .slice A7 L2.length n7] := by rw [← hX]; exact has_new _ _ _
  clear hX
  have kk := has_call ZC.out hb; clear ZC; have ZC := Lib.hid kk; clear kk
  have kk := has_call ZX.out hb; clear ZX; have ZX := Lib.hid kk; clear kk
  have kk := has_call ZY.out hb; clear ZY; have ZY := Lib.hid kk; clear kk
  have kk := (Y1.out.below hb).more hb.size; clear Y1; have Y1 := Lib.hid kk; clear kk
  have kk := (Y2.out.below hb).more hb.size; clear Y2; have Y2 := Lib.hid kk; clear kk
  have kk := (E1.out.below hb).more hb.size; clear E1; have E1 := Lib.hid kk; clear kk
  have kk := (E2.out.below hb).more hb.size; clear E2; have E2 := Lib.hid kk; clear kk
  have kk := bthen ZB.out hb; clear ZB; have ZB := Lib.hid kk; clear kk
  have hsw9 := hb.size; clear hb
  have hlw9 := has_lt ZC.out
  have ZE := Lib.hid hk; clear hk; have hlZEw9 := has_lt ZE.out
  have hti := takeI_any w9 w9.heap.size ⟨x.z, A6, x.F, n6, A7, L2, n7⟩ p hF1 hl2 (Nat.le_refl _) (cvB E1.out E2.out hF1 hl2)
  dsimp only at hti
  refine hti.mono ?_
  clear hti
  rintro e w10 ⟨z3, F3, L3, q3, A8, A9, n8, n9, rfl, hR3, _, _, or2, or3, hb⟩
  obtain ⟨rfl, rfl, rfl, hLL⟩ := take_none HNO.out hR3
  have hLL := hLL.symm
  subst hLL
  clear hR3 or2 or3 HNO
  have kk := has_call ZC.out hb; clear ZC; have ZC := Lib.hid kk; clear kk
  have kk := has_call ZX.out hb; clear ZX; have ZX := Lib.hid kk; clear kk
  have kk := has_call ZY.out hb; clear ZY; have ZY := Lib.hid kk; clear kk
  have kk := has_call ZE.out hb; clear ZE; have ZE := Lib.hid kk; clear kk
  have kk := (Y1.out.below hb).more hb.size; clear Y1; have Y1 := Lib.hid kk; clear kk
  have kk := (Y2.out.below hb).more hb.size; clear Y2; have Y2 := Lib.hid kk; clear kk
  have kk := (E1.out.below hb).more hb.size; clear E1; have E1 := Lib.hid kk; clear kk
  have kk := (E2.out.below hb).more hb.size; clear E2; have E2 := Lib.hid kk; clear kk
  have kk := bthen ZB.out hb; clear ZB; have ZB := Lib.hid kk; clear kk
  have hsw10 := hb.size; clear hb
  have hlw10 := has_lt ZC.out
  have zcc0 := has_cell ZC.out 0 rfl; have zcc1 := has_cell ZC.out 1 rfl; have zcc2 := has_cell ZC.out 2 rfl; have zclt := has_lt ZC.out
  have zxc0 := has_cell ZX.out 0 rfl; have zxc1 := has_cell ZX.out 1 rfl; have zxc2 := has_cell ZX.out 2 rfl; have zxlt := has_lt ZX.out
  have zyc0 := has_cell ZY.out 0 rfl; have zyc1 := has_cell ZY.out 1 rfl; have zyc2 := has_cell ZY.out 2 rfl; have zylt := has_lt ZY.out
  have zec0 := has_cell ZE.out 0 rfl; have zec1 := has_cell ZE.out 1 rfl; have zec2 := has_cell ZE.out 2 rfl; have zelt := has_lt ZE.out
  go_wp2_with fail
  clear zcc0 zcc1 zcc2 zxc0 zxc1 zxc2 zyc0 zyc1 zyc2 zec0 zec1 zec2 zclt zxlt zylt zelt
  generalize hX : (w10.alloc (.cells #[.int .i64 x.z, .slice A8 x.F.length n8, .slice A9 L2.length n9] 27)) = w11
  have hb : Below w10.heap.size w10 w11 := by rw [← hX]; exact balloc _ _
  have hk : Has w11 w10.heap.size 27 #[.int .i64 x.z, .slice A8 x.F.length n8, .slice A9 L2.length n9] := by rw [← hX]; exact has_new _ _ _
  clear hX
  have kk := has_call ZC.out hb; clear ZC; have ZC := Lib.hid kk; clear kk
  have kk := has_call ZX.out hb; clear ZX; have ZX := Lib.hid kk; clear kk
  have kk := has_call ZY.out hb; clear ZY; have ZY := Lib.hid kk; clear kk
  have kk := has_call ZE.out hb; clear ZE; have ZE := Lib.hid kk; clear kk
  have kk := (Y1.out.below hb).more hb.size; clear Y1; have Y1 := Lib.hid kk; clear kk
  have kk := (Y2.out.below hb).more hb.size; clear Y2; have Y2 := Lib.hid kk; clear kk
  have kk := (E1.out.below hb).more hb.size; clear E1; have E1 := Lib.hid kk; clear kk
  have kk := (E2.out.below hb).more hb.size; clear E2; have E2 := Lib.hid kk; clear kk
  have kk := bthen ZB.out hb; clear ZB; have ZB := Lib.hid kk; clear kk
  have hsw11 := hb.size; clear hb
  have hlw11 := has_lt ZC.out
  have ZT := Lib.hid hk; clear hk; have hlZTw11 := has_lt ZT.out
  obtain ⟨⟨g0, g1, g2⟩, hgf, hgl, hgs⟩ := HBF.out.fit
  dsimp only at hgl hgs
  subst hgl
  refine (fitI_any w11 w1.heap.size x s ZB.out.size (HV.out.later (Nat.le_refl _) ZB.out)).mono ?_
  rintro e w12 hans
  rw [hgf] at hans
  obtain ⟨rfl, hb⟩ := hans
  dsimp only
  clear hgf
  have kk := has_call ZC.out hb; clear ZC; have ZC := Lib.hid kk; clear kk
  have kk := has_call ZX.out hb; clear ZX; have ZX := Lib.hid kk; clear kk
  have kk := has_call ZY.out hb; clear ZY; have ZY := Lib.hid kk; clear kk
  have kk := has_call ZE.out hb; clear ZE; have ZE := Lib.hid kk; clear kk
  have kk := has_call ZT.out hb; clear ZT; have ZT := Lib.hid kk; clear kk
  have kk := (Y1.out.below hb).more hb.size; clear Y1; have Y1 := Lib.hid kk; clear kk
  have kk := (Y2.out.below hb).more hb.size; clear Y2; have Y2 := Lib.hid kk; clear kk
  have kk := (E1.out.below hb).more hb.size; clear E1; have E1 := Lib.hid kk; clear kk
  have kk := (E2.out.below hb).more hb.size; clear E2; have E2 := Lib.hid kk; clear kk
  have kk := bthen ZB.out hb; clear ZB; have ZB := Lib.hid kk; clear kk
  have hsw12 := hb.size; clear hb
  have hlw12 := has_lt ZC.out
  have zcc0 := has_cell ZC.out 0 rfl; have zcc1 := has_cell ZC.out 1 rfl; have zcc2 := has_cell ZC.out 2 rfl; have zclt := has_lt ZC.out
  have zxc0 := has_cell ZX.out 0 rfl; have zxc1 := has_cell ZX.out 1 rfl; have zxc2 := has_cell ZX.out 2 rfl; have zxlt := has_lt ZX.out
  have zyc0 := has_cell ZY.out 0 rfl; have zyc1 := has_cell ZY.out 1 rfl; have zyc2 := has_cell ZY.out 2 rfl; have zylt := has_lt ZY.out
  have zec0 := has_cell ZE.out 0 rfl; have zec1 := has_cell ZE.out 1 rfl; have zec2 := has_cell ZE.out 2 rfl; have zelt := has_lt ZE.out
  go_upto_region 13 with fail
  clear zcc0 zcc1 zcc2 zxc0 zxc1 zxc2 zyc0 zyc1 zyc2 zec0 zec1 zec2 zclt zxlt zylt zelt
  generalize hX : (w12.alloc (.cells #[.int .i64 g0, .int .i64 g1, .int .i64 g2] 36)) = v
  have hb : Below w12.heap.size w12 v := by rw [← hX]; exact balloc _ _
  have hk : Has v w12.heap.size 36 #[.int .i64 g0, .int .i64 g1, .int .i64 g2] := by rw [← hX]; exact has_new _ _ _
  clear hX
  have kk := has_call ZC.out hb; clear ZC; have ZC := Lib.hid kk; clear kk
  have kk := has_call ZX.out hb; clear ZX; have ZX := Lib.hid kk; clear kk
  have kk := has_call ZY.out hb; clear ZY; have ZY := Lib.hid kk; clear kk
  have kk := has_call ZE.out hb; clear ZE; have ZE := Lib.hid kk; clear kk
  have kk := has_call ZT.out hb; clear ZT; have ZT := Lib.hid kk; clear kk
  have kk := (Y1.out.below hb).more hb.size; clear Y1; have Y1 := Lib.hid kk; clear kk
  have kk := (Y2.out.below hb).more hb.size; clear Y2; have Y2 := Lib.hid kk; clear kk
  have kk := (E1.out.below hb).more hb.size; clear E1; have E1 := Lib.hid kk; clear kk
  have kk := (E2.out.below hb).more hb.size; clear E2; have E2 := Lib.hid kk; clear kk
  have kk := bthen ZB.out hb; clear ZB; have ZB := Lib.hid kk; clear kk
  have hsv := hb.size; clear hb
  have hlv := has_lt ZC.out
  have ZG := Lib.hid hk; clear hk; have hlZGv := has_lt ZG.out
  obtain ⟨G, hG⟩ : ∃ G, gapsO x.z x.F x.L = G := ⟨_, rfl⟩
  obtain ⟨G1, hG1⟩ : ∃ G1, gapsO x.z x.F L1 = G1 := ⟨_, rfl⟩
  obtain ⟨G2, hG2⟩ : ∃ G2, gapsO x.z x.F L2 = G2 := ⟨_, rfl⟩
  have hr1 := HBF.out.r1; have hr2 := HBF.out.r2
  rw [hG, hG1] at hr1; rw [hG, hG2] at hr2
  have hgl0 : G.length ≤ 1048576 := by rw [← hG]; have := gapsO_len x.z x.F x.L; omega
  have hgl1 : G1.length ≤ 1048576 := by rw [← hG1]; have := gapsO_len x.z x.F L1; omega
  have hgl2 : G2.length ≤ 1048576 := by rw [← hG2]; have := gapsO_len x.z x.F L2; omega
  have hgl3 : G.length ≤ 24 := by rw [← hG]; exact gapsO_len x.z x.F x.L
  have hb0' : ∀ g ∈ G, 0 ≤ g.size ∧ g.size ≤ 24 := by rw [← hG]; intro g hg; have := gapsO_bd g hg; omega
  have hb1' : ∀ g ∈ G1, 0 ≤ g.size ∧ g.size ≤ 24 := by rw [← hG1]; intro g hg; have := gapsO_bd g hg; omega
  have hb2' : ∀ g ∈ G2, 0 ≤ g.size ∧ g.size ≤ 24 := by rw [← hG2]; intro g hg; have := gapsO_bd g hg; omega
  have hgb := gsum_bd hb0' G.length
  rw [List.take_length] at hgb
  have HVd := Lib.hid (HV.out.later (Nat.le_refl _) ZB.out)
  have HY0 := Lib.hid (cvB (z := x.z) (n1 := n4) (n2 := n5) Y1.out Y2.out hF1 hl1)
  have HE0 := Lib.hid (cvB (z := x.z) (n1 := n6) (n2 := n7) E1.out E2.out hF1 hl2)
  have hvz := ZB.out.size
  have HYd := Lib.hid (show CV v.drew v.heap.size ⟨x.z, A4, x.F, n4, A5, L1, n5⟩ from ⟨HY0.out.f.below (Below.refl _ _).drew, HY0.out.b.below (Below.refl _ _).drew, HY0.out.lf, HY0.out.lb⟩)
  have hci := colI_any v.drew v.heap.size ⟨x.z, A4, x.F, n4, A5, L1, n5⟩ (Nat.le_refl _) HYd.out
  dsimp only at hci
  have hci2 := hci.mono (R' := fun e w' => e = .returned (.bool true) ∧ Below v.drew.heap.size v.drew w') (fun e w' ⟨q1, he, hq1, hb⟩ => ⟨by rw [he, show q1 = true from hq1.2 HBF.out.ok1], hb⟩)
  have HC1 := Lib.hid hci2; clear hci hci2
  have hce := fun (W : World) (h : Below v.heap.size v W) => (colI_any W v.heap.size ⟨x.z, A6, x.F, n6, A7, L2, n7⟩ h.size (HE0.out.later (Nat.le_refl _) h)).mono (R' := fun e w' => e = .returned (.bool true) ∧ Below W.heap.size W w') (fun e w' ⟨q1, he, hq1, hb⟩ => ⟨by rw [he, show q1 = true from hq1.2 HBF.out.ok2], hb⟩)
  dsimp only at hce
  have HC2 := Lib.hid hce; clear hce
  have hgy := fun (W : World) (h : Below v.heap.size v W) => gapsS_any W v.heap.size ⟨x.z, A4, x.F, n4, A5, L1, n5⟩ h.size (HY0.out.later (Nat.le_refl _) h)
  dsimp only at hgy
  rw [hG1] at hgy
  have hge := fun (W : World) (h : Below v.heap.size v W) => gapsS_any W v.heap.size ⟨x.z, A6, x.F, n6, A7, L2, n7⟩ h.size (HE0.out.later (Nat.le_refl _) h)
  dsimp only at hge
  rw [hG2] at hge
  have hgc := fun (W : World) (h : Below v.heap.size v W) => gapsS_any W w1.heap.size x (Nat.le_trans hvz h.size) (HVd.out.later hvz h)
  rw [hG] at hgc
  have HGY := Lib.hid hgy; have HGE := Lib.hid hge; have HGC := Lib.hid hgc; clear hgy hge hgc hG hG1 hG2
  obtain ⟨s0, hs0'⟩ : ∃ s0, gsum G = s0 := ⟨_, rfl⟩
  rw [hs0'] at hr1 hr2 hgb
  have HB0 := Lib.hid hb0'; have HB1 := Lib.hid hb1'; have HB2 := Lib.hid hb2'; have HS0 := Lib.hid hs0'; have HRA := Lib.hid hr1; have HRB := Lib.hid hr2; clear hb0' hb1' hb2' hs0' hr1 hr2
  have hgl9 : (g1 == g1) = true := by simp
  have hwz : (IntKind.i64.wrap (s0 - s) == IntKind.i64.wrap (s0 - s)) = true := by simp
  have hw2 : IntKind.i64.wrap (s0 - s) = s0 - s := IntWalk.i64_in _ (by omega)
  have hw3 : ((s0 - s) == (s0 - s)) = true := by simp
  have hw4 : (s0 == s0) = true := by simp
  have hge1 : s ≤ g2 := hgs
  have hq1 : w1.heap.size < v.heap.size := has_lt ZC.out
  have hq2 : w5.heap.size < v.heap.size := has_lt ZY.out
  have hq3 : w8.heap.size < v.heap.size := has_lt ZE.out
  have hq4 : w12.heap.size < v.heap.size := has_lt ZG.out
  have S0 : (fun W : World => ((W.cell? ⟨w1.heap.size, 0, none⟩ = some (.int .i64 x.z) ∧ W.cell? ⟨w1.heap.size, 1, none⟩ = some (.slice x.AF x.F.length x.cF) ∧ W.cell? ⟨w1.heap.size, 2, none⟩ = some (.slice x.AB x.L.length x.cB) ∧ W.cell? ⟨w5.heap.size, 0, none⟩ = some (.int .i64 x.z) ∧ W.cell? ⟨w5.heap.size, 1, none⟩ = some (.slice A4 x.F.length n4) ∧ W.cell? ⟨w5.heap.size, 2, none⟩ = some (.slice A5 L1.length n5) ∧ W.cell? ⟨w8.heap.size, 0, none⟩ = some (.int .i64 x.z) ∧ W.cell? ⟨w8.heap.size, 1, none⟩ = some (.slice A6 x.F.length n6) ∧ W.cell? ⟨w8.heap.size, 2, none⟩ = some (.slice A7 L2.length n7) ∧ W.cell? ⟨w12.heap.size, 0, none⟩ = some (.int .i64 g0) ∧ W.cell? ⟨w12.heap.size, 1, none⟩ = some (.int .i64 g1) ∧ W.cell? ⟨w12.heap.size, 2, none⟩ = some (.int .i64 g2)) ∧ Below v.heap.size v W)) v.drew := ⟨⟨has_cell ZC.out 0 rfl, has_cell ZC.out 1 rfl, has_cell ZC.out 2 rfl, has_cell ZY.out 0 rfl, has_cell ZY.out 1 rfl, has_cell ZY.out 2 rfl, has_cell ZE.out 0 rfl, has_cell ZE.out 1 rfl, has_cell ZE.out 2 rfl, has_cell ZG.out 0 rfl, has_cell ZG.out 1 rfl, has_cell ZG.out 2 rfl⟩, (Below.refl _ _).drew⟩
  clear S0
  have zck0 := has_cell ZC.out 0 rfl
  have zck1 := has_cell ZC.out 1 rfl
  have zck2 := has_cell ZC.out 2 rfl
  have zyk0 := has_cell ZY.out 0 rfl
  have zyk1 := has_cell ZY.out 1 rfl
  have zyk2 := has_cell ZY.out 2 rfl
  have zek0 := has_cell ZE.out 0 rfl
  have zek1 := has_cell ZE.out 1 rfl
  have zek2 := has_cell ZE.out 2 rfl
  have zgk0 := has_cell ZG.out 0 rfl
  have zgk1 := has_cell ZG.out 1 rfl
  have zgk2 := has_cell ZG.out 2 rfl
  have S0 : (fun W : World => (W.cell? ⟨w1.heap.size, 0, none⟩ = some (.int .i64 x.z) ∧ W.cell? ⟨w1.heap.size, 1, none⟩ = some (.slice x.AF x.F.length x.cF) ∧ W.cell? ⟨w1.heap.size, 2, none⟩ = some (.slice x.AB x.L.length x.cB) ∧ W.cell? ⟨w5.heap.size, 0, none⟩ = some (.int .i64 x.z) ∧ W.cell? ⟨w5.heap.size, 1, none⟩ = some (.slice A4 x.F.length n4) ∧ W.cell? ⟨w5.heap.size, 2, none⟩ = some (.slice A5 L1.length n5) ∧ W.cell? ⟨w8.heap.size, 0, none⟩ = some (.int .i64 x.z) ∧ W.cell? ⟨w8.heap.size, 1, none⟩ = some (.slice A6 x.F.length n6) ∧ W.cell? ⟨w8.heap.size, 2, none⟩ = some (.slice A7 L2.length n7) ∧ W.cell? ⟨w12.heap.size, 0, none⟩ = some (.int .i64 g0) ∧ W.cell? ⟨w12.heap.size, 1, none⟩ = some (.int .i64 g1) ∧ W.cell? ⟨w12.heap.size, 2, none⟩ = some (.int .i64 g2)) ∧ Below v.heap.size v W) v.drew := ⟨⟨zck0, zck1, zck2, zyk0, zyk1, zyk2, zek0, zek1, zek2, zgk0, zgk1, zgk2⟩, (Below.refl _ _).drew⟩
  clear zck0 zck1 zck2 zyk0 zyk1 zyk2 zek0 zek1 zek2 zgk0 zgk1 zgk2
  refine wp_region_held_drew (S := (fun W : World => (W.cell? ⟨w1.heap.size, 0, none⟩ = some (.int .i64 x.z) ∧ W.cell? ⟨w1.heap.size, 1, none⟩ = some (.slice x.AF x.F.length x.cF) ∧ W.cell? ⟨w1.heap.size, 2, none⟩ = some (.slice x.AB x.L.length x.cB) ∧ W.cell? ⟨w5.heap.size, 0, none⟩ = some (.int .i64 x.z) ∧ W.cell? ⟨w5.heap.size, 1, none⟩ = some (.slice A4 x.F.length n4) ∧ W.cell? ⟨w5.heap.size, 2, none⟩ = some (.slice A5 L1.length n5) ∧ W.cell? ⟨w8.heap.size, 0, none⟩ = some (.int .i64 x.z) ∧ W.cell? ⟨w8.heap.size, 1, none⟩ = some (.slice A6 x.F.length n6) ∧ W.cell? ⟨w8.heap.size, 2, none⟩ = some (.slice A7 L2.length n7) ∧ W.cell? ⟨w12.heap.size, 0, none⟩ = some (.int .i64 g0) ∧ W.cell? ⟨w12.heap.size, 1, none⟩ = some (.int .i64 g1) ∧ W.cell? ⟨w12.heap.size, 2, none⟩ = some (.int .i64 g2)) ∧ Below v.heap.size v W)) (by kernel_rfl) S0 (fun _ => ?_)
  refine any_take (i := 0) (some 83) (.agg #[.int .i64 x.z, .slice A4 x.F.length n4, .slice A5 L1.length n5]) rfl rfl (by kernel_rfl) (by kernel_rfl) (by kernel_rfl) (fun _ _ _ h => h) rfl (fun W hSw => ?_) (S0) ?_
  · (try dsimp only at hSw); go_simp <;> with_reducible rfl
  try simp only [Act.put, List.setIfInBounds_toArray, List.set_cons_zero, List.set_cons_succ]
  refine wpAnyH_ready (rs := [1]) (by kernel_rfl) (by simp) ?_
  refine AllReadyH.cons rfl (fun K hK => ?_) AllReadyH.nil
  go_simp
  try go_wp2_with fail
  go_at_call 12
  refine (HC1.out).mono ?_
  rintro e u1 ⟨rfl, hb8⟩
  go_wp2_with fail
  have hb9u1 : Below v.heap.size v u1 := bthen S0.2 hb8
  have Su1 : (fun W : World => (W.cell? ⟨w1.heap.size, 0, none⟩ = some (.int .i64 x.z) ∧ W.cell? ⟨w1.heap.size, 1, none⟩ = some (.slice x.AF x.F.length x.cF) ∧ W.cell? ⟨w1.heap.size, 2, none⟩ = some (.slice x.AB x.L.length x.cB) ∧ W.cell? ⟨w5.heap.size, 0, none⟩ = some (.int .i64 x.z) ∧ W.cell? ⟨w5.heap.size, 1, none⟩ = some (.slice A4 x.F.length n4) ∧ W.cell? ⟨w5.heap.size, 2, none⟩ = some (.slice A5 L1.length n5) ∧ W.cell? ⟨w8.heap.size, 0, none⟩ = some (.int .i64 x.z) ∧ W.cell? ⟨w8.heap.size, 1, none⟩ = some (.slice A6 x.F.length n6) ∧ W.cell? ⟨w8.heap.size, 2, none⟩ = some (.slice A7 L2.length n7) ∧ W.cell? ⟨w12.heap.size, 0, none⟩ = some (.int .i64 g0) ∧ W.cell? ⟨w12.heap.size, 1, none⟩ = some (.int .i64 g1) ∧ W.cell? ⟨w12.heap.size, 2, none⟩ = some (.int .i64 g2)) ∧ Below v.heap.size v W) u1 := ⟨⟨(bold hb9u1 _ _ (hq1)).trans S0.1.1, (bold hb9u1 _ _ (hq1)).trans S0.1.2.1, (bold hb9u1 _ _ (hq1)).trans S0.1.2.2.1, (bold hb9u1 _ _ (hq2)).trans S0.1.2.2.2.1, (bold hb9u1 _ _ (hq2)).trans S0.1.2.2.2.2.1, (bold hb9u1 _ _ (hq2)).trans S0.1.2.2.2.2.2.1, (bold hb9u1 _ _ (hq3)).trans S0.1.2.2.2.2.2.2.1, (bold hb9u1 _ _ (hq3)).trans S0.1.2.2.2.2.2.2.2.1, (bold hb9u1 _ _ (hq3)).trans S0.1.2.2.2.2.2.2.2.2.1, (bold hb9u1 _ _ (hq4)).trans S0.1.2.2.2.2.2.2.2.2.2.1, (bold hb9u1 _ _ (hq4)).trans S0.1.2.2.2.2.2.2.2.2.2.2.1, (bold hb9u1 _ _ (hq4)).trans S0.1.2.2.2.2.2.2.2.2.2.2.2⟩, hb9u1⟩
  refine hK.out _ _ Su1 (fun _ => ?_)
  clear hK K
  try simp only [Act.put, List.setIfInBounds_toArray, List.set_cons_zero, List.set_cons_succ]
  refine any_take (i := 2) (some 85) (.bool true) rfl rfl (by kernel_rfl) (by kernel_rfl) (by kernel_rfl) (fun _ _ _ h => h) rfl (fun W hSw => ?_) (Su1) ?_
  · (try dsimp only at hSw); go_simp <;> with_reducible rfl
  try simp only [Act.put, List.setIfInBounds_toArray, List.set_cons_zero, List.set_cons_succ]
  refine any_take (i := 3) (some 86) (.bool true) rfl rfl (by kernel_rfl) (by kernel_rfl) (by kernel_rfl) (fun _ _ _ h => h) rfl (fun W hSw => ?_) (Su1) ?_
  · (try dsimp only at hSw); go_simp <;> with_reducible rfl
  try simp only [Act.put, List.setIfInBounds_toArray, List.set_cons_zero, List.set_cons_succ]
  refine any_take (i := 4) (some 87) (.bool true) rfl rfl (by kernel_rfl) (by kernel_rfl) (by kernel_rfl) (fun _ _ _ h => h) rfl (fun W hSw => ?_) (Su1) ?_
  · (try dsimp only at hSw); go_simp <;> with_reducible rfl
  try simp only [Act.put, List.setIfInBounds_toArray, List.set_cons_zero, List.set_cons_succ]
  refine any_take (i := 5) (some 88) (.bool true) rfl rfl (by kernel_rfl) (by kernel_rfl) (by kernel_rfl) (fun _ _ _ h => h) rfl (fun W hSw => ?_) (Su1) ?_
  · (try dsimp only at hSw); go_simp <;> with_reducible rfl
  try simp only [Act.put, List.setIfInBounds_toArray, List.set_cons_zero, List.set_cons_succ]
  refine any_take (i := 6) (some 89) (.bool false) rfl rfl (by kernel_rfl) (by kernel_rfl) (by kernel_rfl) (fun _ _ _ h => h) rfl (fun W hSw => ?_) (Su1) ?_
  · (try dsimp only at hSw); go_simp <;> with_reducible rfl
  try simp only [Act.put, List.setIfInBounds_toArray, List.set_cons_zero, List.set_cons_succ]
  refine any_take (i := 7) (some 90) (.bool true) rfl rfl (by kernel_rfl) (by kernel_rfl) (by kernel_rfl) (fun _ _ _ h => h) rfl (fun W hSw => ?_) (Su1) ?_
  · (try dsimp only at hSw); go_simp <;> with_reducible rfl
  try simp only [Act.put, List.setIfInBounds_toArray, List.set_cons_zero, List.set_cons_succ]
  refine any_take (i := 8) (some 91) (.bool true) rfl rfl (by kernel_rfl) (by kernel_rfl) (by kernel_rfl) (fun _ _ _ h => h) rfl (fun W hSw => ?_) (Su1) ?_
  · (try dsimp only at hSw); go_simp <;> with_reducible rfl
  try simp only [Act.put, List.setIfInBounds_toArray, List.set_cons_zero, List.set_cons_succ]
  refine any_take (i := 9) (some 92) (.bool true) rfl rfl (by kernel_rfl) (by kernel_rfl) (by kernel_rfl) (fun _ _ _ h => h) rfl (fun W hSw => ?_) (Su1) ?_
  · (try dsimp only at hSw); go_simp <;> with_reducible rfl
  try simp only [Act.put, List.setIfInBounds_toArray, List.set_cons_zero, List.set_cons_succ]
  refine any_take (i := 10) (some 93) (.agg #[.int .i64 x.z, .slice A6 x.F.length n6, .slice A7 L2.length n7]) rfl rfl (by kernel_rfl) (by kernel_rfl) (by kernel_rfl) (fun _ _ _ h => h) rfl (fun W hSw => ?_) (Su1) ?_
  · (try dsimp only at hSw); go_simp <;> with_reducible rfl
  try simp only [Act.put, List.setIfInBounds_toArray, List.set_cons_zero, List.set_cons_succ]
  refine wpAnyH_ready (rs := [11]) (by kernel_rfl) (by simp) ?_
  refine AllReadyH.cons rfl (fun K hK => ?_) AllReadyH.nil
  go_simp
  try go_wp2_with fail
  go_at_call 12
  refine (HC2.out u1 Su1.2).mono ?_
  rintro e u2 ⟨rfl, hb8⟩
  go_wp2_with fail
  have hb9u2 : Below v.heap.size v u2 := bthen Su1.2 hb8
  have Su2 : (fun W : World => (W.cell? ⟨w1.heap.size, 0, none⟩ = some (.int .i64 x.z) ∧ W.cell? ⟨w1.heap.size, 1, none⟩ = some (.slice x.AF x.F.length x.cF) ∧ W.cell? ⟨w1.heap.size, 2, none⟩ = some (.slice x.AB x.L.length x.cB) ∧ W.cell? ⟨w5.heap.size, 0, none⟩ = some (.int .i64 x.z) ∧ W.cell? ⟨w5.heap.size, 1, none⟩ = some (.slice A4 x.F.length n4) ∧ W.cell? ⟨w5.heap.size, 2, none⟩ = some (.slice A5 L1.length n5) ∧ W.cell? ⟨w8.heap.size, 0, none⟩ = some (.int .i64 x.z) ∧ W.cell? ⟨w8.heap.size, 1, none⟩ = some (.slice A6 x.F.length n6) ∧ W.cell? ⟨w8.heap.size, 2, none⟩ = some (.slice A7 L2.length n7) ∧ W.cell? ⟨w12.heap.size, 0, none⟩ = some (.int .i64 g0) ∧ W.cell? ⟨w12.heap.size, 1, none⟩ = some (.int .i64 g1) ∧ W.cell? ⟨w12.heap.size, 2, none⟩ = some (.int .i64 g2)) ∧ Below v.heap.size v W) u2 := ⟨⟨(bold hb9u2 _ _ (hq1)).trans S0.1.1, (bold hb9u2 _ _ (hq1)).trans S0.1.2.1, (bold hb9u2 _ _ (hq1)).trans S0.1.2.2.1, (bold hb9u2 _ _ (hq2)).trans S0.1.2.2.2.1, (bold hb9u2 _ _ (hq2)).trans S0.1.2.2.2.2.1, (bold hb9u2 _ _ (hq2)).trans S0.1.2.2.2.2.2.1, (bold hb9u2 _ _ (hq3)).trans S0.1.2.2.2.2.2.2.1, (bold hb9u2 _ _ (hq3)).trans S0.1.2.2.2.2.2.2.2.1, (bold hb9u2 _ _ (hq3)).trans S0.1.2.2.2.2.2.2.2.2.1, (bold hb9u2 _ _ (hq4)).trans S0.1.2.2.2.2.2.2.2.2.2.1, (bold hb9u2 _ _ (hq4)).trans S0.1.2.2.2.2.2.2.2.2.2.2.1, (bold hb9u2 _ _ (hq4)).trans S0.1.2.2.2.2.2.2.2.2.2.2.2⟩, hb9u2⟩
  refine hK.out _ _ Su2 (fun _ => ?_)
  clear hK K
  try simp only [Act.put, List.setIfInBounds_toArray, List.set_cons_zero, List.set_cons_succ]
  refine any_take (i := 12) (some 95) (.bool true) rfl rfl (by kernel_rfl) (by kernel_rfl) (by kernel_rfl) (fun _ _ _ h => h) rfl (fun W hSw => ?_) (Su2) ?_
  · (try dsimp only at hSw); go_simp <;> with_reducible rfl
  try simp only [Act.put, List.setIfInBounds_toArray, List.set_cons_zero, List.set_cons_succ]
  refine any_take (i := 13) (some 96) (.bool true) rfl rfl (by kernel_rfl) (by kernel_rfl) (by kernel_rfl) (fun _ _ _ h => h) rfl (fun W hSw => ?_) (Su2) ?_
  · (try dsimp only at hSw); go_simp <;> with_reducible rfl
  try simp only [Act.put, List.setIfInBounds_toArray, List.set_cons_zero, List.set_cons_succ]
  refine any_take (i := 14) (some 97) (.bool true) rfl rfl (by kernel_rfl) (by kernel_rfl) (by kernel_rfl) (fun _ _ _ h => h) rfl (fun W hSw => ?_) (Su2) ?_
  · (try dsimp only at hSw); go_simp <;> with_reducible rfl
  try simp only [Act.put, List.setIfInBounds_toArray, List.set_cons_zero, List.set_cons_succ]
  refine any_take (i := 15) (some 98) (.bool true) rfl rfl (by kernel_rfl) (by kernel_rfl) (by kernel_rfl) (fun _ _ _ h => h) rfl (fun W hSw => ?_) (Su2) ?_
  · (try dsimp only at hSw); go_simp <;> with_reducible rfl
  try simp only [Act.put, List.setIfInBounds_toArray, List.set_cons_zero, List.set_cons_succ]
  refine any_take (i := 16) (some 99) (.bool true) rfl rfl (by kernel_rfl) (by kernel_rfl) (by kernel_rfl) (fun _ _ _ h => h) rfl (fun W hSw => ?_) (Su2) ?_
  · (try dsimp only at hSw); go_simp <;> with_reducible rfl
  try simp only [Act.put, List.setIfInBounds_toArray, List.set_cons_zero, List.set_cons_succ]
  refine any_take (i := 17) (some 100) (.pointer (some ⟨w12.heap.size, 1, none⟩)) rfl rfl (by kernel_rfl) (by kernel_rfl) (by kernel_rfl) (fun _ _ _ h => h) rfl (fun W hSw => ?_) (Su2) ?_
  · (try dsimp only at hSw); go_simp <;> with_reducible rfl
  try simp only [Act.put, List.setIfInBounds_toArray, List.set_cons_zero, List.set_cons_succ]
  refine any_take (i := 18) (some 101) (.int .i64 g1) rfl rfl (by kernel_rfl) (by kernel_rfl) (by kernel_rfl) (fun _ _ _ h => h) rfl (fun W hSw => ?_) (Su2) ?_
  · (try dsimp only at hSw); go_simp <;> with_reducible rfl
  try simp only [Act.put, List.setIfInBounds_toArray, List.set_cons_zero, List.set_cons_succ]
  refine any_take (i := 19) (some 102) (.int .i64 g1) rfl rfl (by kernel_rfl) (by kernel_rfl) (by kernel_rfl) (fun _ _ _ h => h) rfl (fun W hSw => ?_) (Su2) ?_
  · (try dsimp only at hSw); go_simp <;> with_reducible rfl
  try simp only [Act.put, List.setIfInBounds_toArray, List.set_cons_zero, List.set_cons_succ]
  refine any_take (i := 20) (some 103) (.bool true) rfl rfl (by kernel_rfl) (by kernel_rfl) (by kernel_rfl) (fun _ _ _ h => h) rfl (fun W hSw => ?_) (Su2) ?_
  · (try dsimp only at hSw); go_simp <;> with_reducible rfl
  try simp only [Act.put, List.setIfInBounds_toArray, List.set_cons_zero, List.set_cons_succ]
  refine any_take (i := 21) (some 104) (.bool true) rfl rfl (by kernel_rfl) (by kernel_rfl) (by kernel_rfl) (fun _ _ _ h => h) rfl (fun W hSw => ?_) (Su2) ?_
  · (try dsimp only at hSw); go_simp <;> with_reducible rfl
  try simp only [Act.put, List.setIfInBounds_toArray, List.set_cons_zero, List.set_cons_succ]
  refine any_take (i := 22) (some 105) (.bool true) rfl rfl (by kernel_rfl) (by kernel_rfl) (by kernel_rfl) (fun _ _ _ h => h) rfl (fun W hSw => ?_) (Su2) ?_
  · (try dsimp only at hSw); go_simp <;> with_reducible rfl
  try simp only [Act.put, List.setIfInBounds_toArray, List.set_cons_zero, List.set_cons_succ]
  refine any_take (i := 23) (some 106) (.pointer (some ⟨w12.heap.size, 2, none⟩)) rfl rfl (by kernel_rfl) (by kernel_rfl) (by kernel_rfl) (fun _ _ _ h => h) rfl (fun W hSw => ?_) (Su2) ?_
  · (try dsimp only at hSw); go_simp <;> with_reducible rfl
  try simp only [Act.put, List.setIfInBounds_toArray, List.set_cons_zero, List.set_cons_succ]
  refine any_take (i := 24) (some 107) (.int .i64 g2) rfl rfl (by kernel_rfl) (by kernel_rfl) (by kernel_rfl) (fun _ _ _ h => h) rfl (fun W hSw => ?_) (Su2) ?_
  · (try dsimp only at hSw); go_simp <;> with_reducible rfl
  try simp only [Act.put, List.setIfInBounds_toArray, List.set_cons_zero, List.set_cons_succ]
  refine any_take (i := 25) (some 108) (.int .i64 s) rfl rfl (by kernel_rfl) (by kernel_rfl) (by kernel_rfl) (fun _ _ _ h => h) rfl (fun W hSw => ?_) (Su2) ?_
  · (try dsimp only at hSw); go_simp <;> with_reducible rfl
  try simp only [Act.put, List.setIfInBounds_toArray, List.set_cons_zero, List.set_cons_succ]
  refine any_take (i := 26) (some 109) (.bool true) rfl rfl (by kernel_rfl) (by kernel_rfl) (by kernel_rfl) (fun _ _ _ h => h) rfl (fun W hSw => ?_) (Su2) ?_
  · (try dsimp only at hSw); go_simp <;> with_reducible rfl
  try simp only [Act.put, List.setIfInBounds_toArray, List.set_cons_zero, List.set_cons_succ]
  refine any_take (i := 27) (some 110) (.bool true) rfl rfl (by kernel_rfl) (by kernel_rfl) (by kernel_rfl) (fun _ _ _ h => h) rfl (fun W hSw => ?_) (Su2) ?_
  · (try dsimp only at hSw); go_simp <;> with_reducible rfl
  try simp only [Act.put, List.setIfInBounds_toArray, List.set_cons_zero, List.set_cons_succ]
  refine any_take (i := 28) (some 111) (.bool true) rfl rfl (by kernel_rfl) (by kernel_rfl) (by kernel_rfl) (fun _ _ _ h => h) rfl (fun W hSw => ?_) (Su2) ?_
  · (try dsimp only at hSw); go_simp <;> with_reducible rfl
  try simp only [Act.put, List.setIfInBounds_toArray, List.set_cons_zero, List.set_cons_succ]
  refine any_take (i := 29) (some 112) (.agg #[.int .i64 x.z, .slice A4 x.F.length n4, .slice A5 L1.length n5]) rfl rfl (by kernel_rfl) (by kernel_rfl) (by kernel_rfl) (fun _ _ _ h => h) rfl (fun W hSw => ?_) (Su2) ?_
  · (try dsimp only at hSw); go_simp <;> with_reducible rfl
  try simp only [Act.put, List.setIfInBounds_toArray, List.set_cons_zero, List.set_cons_succ]
  refine any_take (i := 32) (some 115) (.agg #[.int .i64 x.z, .slice x.AF x.F.length x.cF, .slice x.AB x.L.length x.cB]) rfl rfl (by kernel_rfl) (by kernel_rfl) (by kernel_rfl) (fun _ _ _ h => h) rfl (fun W hSw => ?_) (Su2) ?_
  · (try dsimp only at hSw); go_simp <;> with_reducible rfl
  try simp only [Act.put, List.setIfInBounds_toArray, List.set_cons_zero, List.set_cons_succ]
  refine any_take (i := 35) (some 118) (.int .i64 s) rfl rfl (by kernel_rfl) (by kernel_rfl) (by kernel_rfl) (fun _ _ _ h => h) rfl (fun W hSw => ?_) (Su2) ?_
  · (try dsimp only at hSw); go_simp <;> with_reducible rfl
  try simp only [Act.put, List.setIfInBounds_toArray, List.set_cons_zero, List.set_cons_succ]
  refine wpAnyH_ready (rs := [30]) (by kernel_rfl) (by simp) ?_
  refine AllReadyH.cons rfl (fun K hK => ?_) AllReadyH.nil
  go_simp
  try go_wp2_with fail
  go_at_call 14
  refine (HGY.out u2 Su2.2).mono ?_
  rintro e u3 ⟨aA, ac, rfl, ha, hb8⟩
  have HA := Lib.hid ha.gp
  clear ha
  go_wp2_with fail
  have hb9u3 : Below v.heap.size v u3 := bthen Su2.2 hb8
  have Su3 : (fun W : World => (W.cell? ⟨w1.heap.size, 0, none⟩ = some (.int .i64 x.z) ∧ W.cell? ⟨w1.heap.size, 1, none⟩ = some (.slice x.AF x.F.length x.cF) ∧ W.cell? ⟨w1.heap.size, 2, none⟩ = some (.slice x.AB x.L.length x.cB) ∧ W.cell? ⟨w5.heap.size, 0, none⟩ = some (.int .i64 x.z) ∧ W.cell? ⟨w5.heap.size, 1, none⟩ = some (.slice A4 x.F.length n4) ∧ W.cell? ⟨w5.heap.size, 2, none⟩ = some (.slice A5 L1.length n5) ∧ W.cell? ⟨w8.heap.size, 0, none⟩ = some (.int .i64 x.z) ∧ W.cell? ⟨w8.heap.size, 1, none⟩ = some (.slice A6 x.F.length n6) ∧ W.cell? ⟨w8.heap.size, 2, none⟩ = some (.slice A7 L2.length n7) ∧ W.cell? ⟨w12.heap.size, 0, none⟩ = some (.int .i64 g0) ∧ W.cell? ⟨w12.heap.size, 1, none⟩ = some (.int .i64 g1) ∧ W.cell? ⟨w12.heap.size, 2, none⟩ = some (.int .i64 g2)) ∧ Below v.heap.size v W) u3 := ⟨⟨(bold hb9u3 _ _ (hq1)).trans S0.1.1, (bold hb9u3 _ _ (hq1)).trans S0.1.2.1, (bold hb9u3 _ _ (hq1)).trans S0.1.2.2.1, (bold hb9u3 _ _ (hq2)).trans S0.1.2.2.2.1, (bold hb9u3 _ _ (hq2)).trans S0.1.2.2.2.2.1, (bold hb9u3 _ _ (hq2)).trans S0.1.2.2.2.2.2.1, (bold hb9u3 _ _ (hq3)).trans S0.1.2.2.2.2.2.2.1, (bold hb9u3 _ _ (hq3)).trans S0.1.2.2.2.2.2.2.2.1, (bold hb9u3 _ _ (hq3)).trans S0.1.2.2.2.2.2.2.2.2.1, (bold hb9u3 _ _ (hq4)).trans S0.1.2.2.2.2.2.2.2.2.2.1, (bold hb9u3 _ _ (hq4)).trans S0.1.2.2.2.2.2.2.2.2.2.2.1, (bold hb9u3 _ _ (hq4)).trans S0.1.2.2.2.2.2.2.2.2.2.2.2⟩, hb9u3⟩
  refine hK.out _ _ Su3 (fun _ => ?_)
  clear hK K
  try simp only [Act.put, List.setIfInBounds_toArray, List.set_cons_zero, List.set_cons_succ]
  refine wpAnyH_ready (rs := [31]) (by kernel_rfl) (by simp) ?_
  refine AllReadyH.cons rfl (fun K hK => ?_) AllReadyH.nil
  go_simp
  try go_wp2_with fail
  go_at_call 13
  refine (room_any u3 u3.heap.size aA ac G1 hgl1 (Nat.le_refl _) HA.out HB1.out).mono ?_
  rintro e u4 ⟨rfl, hb8⟩
  rw [HRA.out]
  go_wp2_with fail
  have hb9u4 : Below v.heap.size v u4 := bthen Su3.2 hb8
  have Su4 : (fun W : World => (W.cell? ⟨w1.heap.size, 0, none⟩ = some (.int .i64 x.z) ∧ W.cell? ⟨w1.heap.size, 1, none⟩ = some (.slice x.AF x.F.length x.cF) ∧ W.cell? ⟨w1.heap.size, 2, none⟩ = some (.slice x.AB x.L.length x.cB) ∧ W.cell? ⟨w5.heap.size, 0, none⟩ = some (.int .i64 x.z) ∧ W.cell? ⟨w5.heap.size, 1, none⟩ = some (.slice A4 x.F.length n4) ∧ W.cell? ⟨w5.heap.size, 2, none⟩ = some (.slice A5 L1.length n5) ∧ W.cell? ⟨w8.heap.size, 0, none⟩ = some (.int .i64 x.z) ∧ W.cell? ⟨w8.heap.size, 1, none⟩ = some (.slice A6 x.F.length n6) ∧ W.cell? ⟨w8.heap.size, 2, none⟩ = some (.slice A7 L2.length n7) ∧ W.cell? ⟨w12.heap.size, 0, none⟩ = some (.int .i64 g0) ∧ W.cell? ⟨w12.heap.size, 1, none⟩ = some (.int .i64 g1) ∧ W.cell? ⟨w12.heap.size, 2, none⟩ = some (.int .i64 g2)) ∧ Below v.heap.size v W) u4 := ⟨⟨(bold hb9u4 _ _ (hq1)).trans S0.1.1, (bold hb9u4 _ _ (hq1)).trans S0.1.2.1, (bold hb9u4 _ _ (hq1)).trans S0.1.2.2.1, (bold hb9u4 _ _ (hq2)).trans S0.1.2.2.2.1, (bold hb9u4 _ _ (hq2)).trans S0.1.2.2.2.2.1, (bold hb9u4 _ _ (hq2)).trans S0.1.2.2.2.2.2.1, (bold hb9u4 _ _ (hq3)).trans S0.1.2.2.2.2.2.2.1, (bold hb9u4 _ _ (hq3)).trans S0.1.2.2.2.2.2.2.2.1, (bold hb9u4 _ _ (hq3)).trans S0.1.2.2.2.2.2.2.2.2.1, (bold hb9u4 _ _ (hq4)).trans S0.1.2.2.2.2.2.2.2.2.2.1, (bold hb9u4 _ _ (hq4)).trans S0.1.2.2.2.2.2.2.2.2.2.2.1, (bold hb9u4 _ _ (hq4)).trans S0.1.2.2.2.2.2.2.2.2.2.2.2⟩, hb9u4⟩
  refine hK.out _ _ Su4 (fun _ => ?_)
  clear hK K
  try simp only [Act.put, List.setIfInBounds_toArray, List.set_cons_zero, List.set_cons_succ]
  refine wpAnyH_ready (rs := [33]) (by kernel_rfl) (by simp) ?_
  refine AllReadyH.cons rfl (fun K hK => ?_) AllReadyH.nil
  go_simp
  try go_wp2_with fail
  go_at_call 14
  refine (HGC.out u4 Su4.2).mono ?_
  rintro e u5 ⟨bA, bc, rfl, ha, hb8⟩
  have HA5 := Lib.hid ha.gp
  clear ha
  go_wp2_with fail
  have hb9u5 : Below v.heap.size v u5 := bthen Su4.2 hb8
  have Su5 : (fun W : World => (W.cell? ⟨w1.heap.size, 0, none⟩ = some (.int .i64 x.z) ∧ W.cell? ⟨w1.heap.size, 1, none⟩ = some (.slice x.AF x.F.length x.cF) ∧ W.cell? ⟨w1.heap.size, 2, none⟩ = some (.slice x.AB x.L.length x.cB) ∧ W.cell? ⟨w5.heap.size, 0, none⟩ = some (.int .i64 x.z) ∧ W.cell? ⟨w5.heap.size, 1, none⟩ = some (.slice A4 x.F.length n4) ∧ W.cell? ⟨w5.heap.size, 2, none⟩ = some (.slice A5 L1.length n5) ∧ W.cell? ⟨w8.heap.size, 0, none⟩ = some (.int .i64 x.z) ∧ W.cell? ⟨w8.heap.size, 1, none⟩ = some (.slice A6 x.F.length n6) ∧ W.cell? ⟨w8.heap.size, 2, none⟩ = some (.slice A7 L2.length n7) ∧ W.cell? ⟨w12.heap.size, 0, none⟩ = some (.int .i64 g0) ∧ W.cell? ⟨w12.heap.size, 1, none⟩ = some (.int .i64 g1) ∧ W.cell? ⟨w12.heap.size, 2, none⟩ = some (.int .i64 g2)) ∧ Below v.heap.size v W) u5 := ⟨⟨(bold hb9u5 _ _ (hq1)).trans S0.1.1, (bold hb9u5 _ _ (hq1)).trans S0.1.2.1, (bold hb9u5 _ _ (hq1)).trans S0.1.2.2.1, (bold hb9u5 _ _ (hq2)).trans S0.1.2.2.2.1, (bold hb9u5 _ _ (hq2)).trans S0.1.2.2.2.2.1, (bold hb9u5 _ _ (hq2)).trans S0.1.2.2.2.2.2.1, (bold hb9u5 _ _ (hq3)).trans S0.1.2.2.2.2.2.2.1, (bold hb9u5 _ _ (hq3)).trans S0.1.2.2.2.2.2.2.2.1, (bold hb9u5 _ _ (hq3)).trans S0.1.2.2.2.2.2.2.2.2.1, (bold hb9u5 _ _ (hq4)).trans S0.1.2.2.2.2.2.2.2.2.2.1, (bold hb9u5 _ _ (hq4)).trans S0.1.2.2.2.2.2.2.2.2.2.2.1, (bold hb9u5 _ _ (hq4)).trans S0.1.2.2.2.2.2.2.2.2.2.2.2⟩, hb9u5⟩
  refine hK.out _ _ Su5 (fun _ => ?_)
  clear hK K
  try simp only [Act.put, List.setIfInBounds_toArray, List.set_cons_zero, List.set_cons_succ]
  refine wpAnyH_ready (rs := [34]) (by kernel_rfl) (by simp) ?_
  refine AllReadyH.cons rfl (fun K hK => ?_) AllReadyH.nil
  go_simp
  try go_wp2_with fail
  go_at_call 13
  refine (room_any u5 u5.heap.size bA bc G hgl0 (Nat.le_refl _) HA5.out HB0.out).mono ?_
  rintro e u6 ⟨rfl, hb8⟩
  rw [HS0.out]
  go_wp2_with fail
  have hb9u6 : Below v.heap.size v u6 := bthen Su5.2 hb8
  have Su6 : (fun W : World => (W.cell? ⟨w1.heap.size, 0, none⟩ = some (.int .i64 x.z) ∧ W.cell? ⟨w1.heap.size, 1, none⟩ = some (.slice x.AF x.F.length x.cF) ∧ W.cell? ⟨w1.heap.size, 2, none⟩ = some (.slice x.AB x.L.length x.cB) ∧ W.cell? ⟨w5.heap.size, 0, none⟩ = some (.int .i64 x.z) ∧ W.cell? ⟨w5.heap.size, 1, none⟩ = some (.slice A4 x.F.length n4) ∧ W.cell? ⟨w5.heap.size, 2, none⟩ = some (.slice A5 L1.length n5) ∧ W.cell? ⟨w8.heap.size, 0, none⟩ = some (.int .i64 x.z) ∧ W.cell? ⟨w8.heap.size, 1, none⟩ = some (.slice A6 x.F.length n6) ∧ W.cell? ⟨w8.heap.size, 2, none⟩ = some (.slice A7 L2.length n7) ∧ W.cell? ⟨w12.heap.size, 0, none⟩ = some (.int .i64 g0) ∧ W.cell? ⟨w12.heap.size, 1, none⟩ = some (.int .i64 g1) ∧ W.cell? ⟨w12.heap.size, 2, none⟩ = some (.int .i64 g2)) ∧ Below v.heap.size v W) u6 := ⟨⟨(bold hb9u6 _ _ (hq1)).trans S0.1.1, (bold hb9u6 _ _ (hq1)).trans S0.1.2.1, (bold hb9u6 _ _ (hq1)).trans S0.1.2.2.1, (bold hb9u6 _ _ (hq2)).trans S0.1.2.2.2.1, (bold hb9u6 _ _ (hq2)).trans S0.1.2.2.2.2.1, (bold hb9u6 _ _ (hq2)).trans S0.1.2.2.2.2.2.1, (bold hb9u6 _ _ (hq3)).trans S0.1.2.2.2.2.2.2.1, (bold hb9u6 _ _ (hq3)).trans S0.1.2.2.2.2.2.2.2.1, (bold hb9u6 _ _ (hq3)).trans S0.1.2.2.2.2.2.2.2.2.1, (bold hb9u6 _ _ (hq4)).trans S0.1.2.2.2.2.2.2.2.2.2.1, (bold hb9u6 _ _ (hq4)).trans S0.1.2.2.2.2.2.2.2.2.2.2.1, (bold hb9u6 _ _ (hq4)).trans S0.1.2.2.2.2.2.2.2.2.2.2.2⟩, hb9u6⟩
  refine hK.out _ _ Su6 (fun _ => ?_)
  clear hK K
  try simp only [Act.put, List.setIfInBounds_toArray, List.set_cons_zero, List.set_cons_succ]
  refine any_take (i := 36) (some 119) (.int .i64 (s0 - s)) rfl rfl (by kernel_rfl) (by kernel_rfl) (by kernel_rfl) (fun _ _ _ h => h) rfl (fun W hSw => ?_) (Su6) ?_
  · (try dsimp only at hSw); go_simp <;> with_reducible rfl
  try simp only [Act.put, List.setIfInBounds_toArray, List.set_cons_zero, List.set_cons_succ]
  refine any_take (i := 37) (some 120) (.bool true) rfl rfl (by kernel_rfl) (by kernel_rfl) (by kernel_rfl) (fun _ _ _ h => h) rfl (fun W hSw => ?_) (Su6) ?_
  · (try dsimp only at hSw); go_simp <;> with_reducible rfl
  try simp only [Act.put, List.setIfInBounds_toArray, List.set_cons_zero, List.set_cons_succ]
  refine any_take (i := 38) (some 121) (.bool true) rfl rfl (by kernel_rfl) (by kernel_rfl) (by kernel_rfl) (fun _ _ _ h => h) rfl (fun W hSw => ?_) (Su6) ?_
  · (try dsimp only at hSw); go_simp <;> with_reducible rfl
  try simp only [Act.put, List.setIfInBounds_toArray, List.set_cons_zero, List.set_cons_succ]
  refine any_take (i := 39) (some 122) (.bool true) rfl rfl (by kernel_rfl) (by kernel_rfl) (by kernel_rfl) (fun _ _ _ h => h) rfl (fun W hSw => ?_) (Su6) ?_
  · (try dsimp only at hSw); go_simp <;> with_reducible rfl
  try simp only [Act.put, List.setIfInBounds_toArray, List.set_cons_zero, List.set_cons_succ]
  refine any_take (i := 40) (some 123) (.agg #[.int .i64 x.z, .slice A6 x.F.length n6, .slice A7 L2.length n7]) rfl rfl (by kernel_rfl) (by kernel_rfl) (by kernel_rfl) (fun _ _ _ h => h) rfl (fun W hSw => ?_) (Su6) ?_
  · (try dsimp only at hSw); go_simp <;> with_reducible rfl
  try simp only [Act.put, List.setIfInBounds_toArray, List.set_cons_zero, List.set_cons_succ]
  refine any_take (i := 43) (some 126) (.agg #[.int .i64 x.z, .slice x.AF x.F.length x.cF, .slice x.AB x.L.length x.cB]) rfl rfl (by kernel_rfl) (by kernel_rfl) (by kernel_rfl) (fun _ _ _ h => h) rfl (fun W hSw => ?_) (Su6) ?_
  · (try dsimp only at hSw); go_simp <;> with_reducible rfl
  try simp only [Act.put, List.setIfInBounds_toArray, List.set_cons_zero, List.set_cons_succ]
  refine wpAnyH_ready (rs := [41]) (by kernel_rfl) (by simp) ?_
  refine AllReadyH.cons rfl (fun K hK => ?_) AllReadyH.nil
  go_simp
  try go_wp2_with fail
  go_at_call 14
  refine (HGE.out u6 Su6.2).mono ?_
  rintro e u7 ⟨cA, cc, rfl, ha, hb8⟩
  have HA7 := Lib.hid ha.gp
  clear ha
  go_wp2_with fail
  have hb9u7 : Below v.heap.size v u7 := bthen Su6.2 hb8
  have Su7 : (fun W : World => (W.cell? ⟨w1.heap.size, 0, none⟩ = some (.int .i64 x.z) ∧ W.cell? ⟨w1.heap.size, 1, none⟩ = some (.slice x.AF x.F.length x.cF) ∧ W.cell? ⟨w1.heap.size, 2, none⟩ = some (.slice x.AB x.L.length x.cB) ∧ W.cell? ⟨w5.heap.size, 0, none⟩ = some (.int .i64 x.z) ∧ W.cell? ⟨w5.heap.size, 1, none⟩ = some (.slice A4 x.F.length n4) ∧ W.cell? ⟨w5.heap.size, 2, none⟩ = some (.slice A5 L1.length n5) ∧ W.cell? ⟨w8.heap.size, 0, none⟩ = some (.int .i64 x.z) ∧ W.cell? ⟨w8.heap.size, 1, none⟩ = some (.slice A6 x.F.length n6) ∧ W.cell? ⟨w8.heap.size, 2, none⟩ = some (.slice A7 L2.length n7) ∧ W.cell? ⟨w12.heap.size, 0, none⟩ = some (.int .i64 g0) ∧ W.cell? ⟨w12.heap.size, 1, none⟩ = some (.int .i64 g1) ∧ W.cell? ⟨w12.heap.size, 2, none⟩ = some (.int .i64 g2)) ∧ Below v.heap.size v W) u7 := ⟨⟨(bold hb9u7 _ _ (hq1)).trans S0.1.1, (bold hb9u7 _ _ (hq1)).trans S0.1.2.1, (bold hb9u7 _ _ (hq1)).trans S0.1.2.2.1, (bold hb9u7 _ _ (hq2)).trans S0.1.2.2.2.1, (bold hb9u7 _ _ (hq2)).trans S0.1.2.2.2.2.1, (bold hb9u7 _ _ (hq2)).trans S0.1.2.2.2.2.2.1, (bold hb9u7 _ _ (hq3)).trans S0.1.2.2.2.2.2.2.1, (bold hb9u7 _ _ (hq3)).trans S0.1.2.2.2.2.2.2.2.1, (bold hb9u7 _ _ (hq3)).trans S0.1.2.2.2.2.2.2.2.2.1, (bold hb9u7 _ _ (hq4)).trans S0.1.2.2.2.2.2.2.2.2.2.1, (bold hb9u7 _ _ (hq4)).trans S0.1.2.2.2.2.2.2.2.2.2.2.1, (bold hb9u7 _ _ (hq4)).trans S0.1.2.2.2.2.2.2.2.2.2.2.2⟩, hb9u7⟩
  refine hK.out _ _ Su7 (fun _ => ?_)
  clear hK K
  try simp only [Act.put, List.setIfInBounds_toArray, List.set_cons_zero, List.set_cons_succ]
  refine wpAnyH_ready (rs := [42]) (by kernel_rfl) (by simp) ?_
  refine AllReadyH.cons rfl (fun K hK => ?_) AllReadyH.nil
  go_simp
  try go_wp2_with fail
  go_at_call 13
  refine (room_any u7 u7.heap.size cA cc G2 hgl2 (Nat.le_refl _) HA7.out HB2.out).mono ?_
  rintro e u8 ⟨rfl, hb8⟩
  rw [HRB.out]
  go_wp2_with fail
  have hb9u8 : Below v.heap.size v u8 := bthen Su7.2 hb8
  have Su8 : (fun W : World => (W.cell? ⟨w1.heap.size, 0, none⟩ = some (.int .i64 x.z) ∧ W.cell? ⟨w1.heap.size, 1, none⟩ = some (.slice x.AF x.F.length x.cF) ∧ W.cell? ⟨w1.heap.size, 2, none⟩ = some (.slice x.AB x.L.length x.cB) ∧ W.cell? ⟨w5.heap.size, 0, none⟩ = some (.int .i64 x.z) ∧ W.cell? ⟨w5.heap.size, 1, none⟩ = some (.slice A4 x.F.length n4) ∧ W.cell? ⟨w5.heap.size, 2, none⟩ = some (.slice A5 L1.length n5) ∧ W.cell? ⟨w8.heap.size, 0, none⟩ = some (.int .i64 x.z) ∧ W.cell? ⟨w8.heap.size, 1, none⟩ = some (.slice A6 x.F.length n6) ∧ W.cell? ⟨w8.heap.size, 2, none⟩ = some (.slice A7 L2.length n7) ∧ W.cell? ⟨w12.heap.size, 0, none⟩ = some (.int .i64 g0) ∧ W.cell? ⟨w12.heap.size, 1, none⟩ = some (.int .i64 g1) ∧ W.cell? ⟨w12.heap.size, 2, none⟩ = some (.int .i64 g2)) ∧ Below v.heap.size v W) u8 := ⟨⟨(bold hb9u8 _ _ (hq1)).trans S0.1.1, (bold hb9u8 _ _ (hq1)).trans S0.1.2.1, (bold hb9u8 _ _ (hq1)).trans S0.1.2.2.1, (bold hb9u8 _ _ (hq2)).trans S0.1.2.2.2.1, (bold hb9u8 _ _ (hq2)).trans S0.1.2.2.2.2.1, (bold hb9u8 _ _ (hq2)).trans S0.1.2.2.2.2.2.1, (bold hb9u8 _ _ (hq3)).trans S0.1.2.2.2.2.2.2.1, (bold hb9u8 _ _ (hq3)).trans S0.1.2.2.2.2.2.2.2.1, (bold hb9u8 _ _ (hq3)).trans S0.1.2.2.2.2.2.2.2.2.1, (bold hb9u8 _ _ (hq4)).trans S0.1.2.2.2.2.2.2.2.2.2.1, (bold hb9u8 _ _ (hq4)).trans S0.1.2.2.2.2.2.2.2.2.2.2.1, (bold hb9u8 _ _ (hq4)).trans S0.1.2.2.2.2.2.2.2.2.2.2.2⟩, hb9u8⟩
  refine hK.out _ _ Su8 (fun _ => ?_)
  clear hK K
  try simp only [Act.put, List.setIfInBounds_toArray, List.set_cons_zero, List.set_cons_succ]
  refine wpAnyH_ready (rs := [44]) (by kernel_rfl) (by simp) ?_
  refine AllReadyH.cons rfl (fun K hK => ?_) AllReadyH.nil
  go_simp
  try go_wp2_with fail
  go_at_call 14
  refine (HGC.out u8 Su8.2).mono ?_
  rintro e u9 ⟨dA, dc, rfl, ha, hb8⟩
  have HA9 := Lib.hid ha.gp
  clear ha
  go_wp2_with fail
  have hb9u9 : Below v.heap.size v u9 := bthen Su8.2 hb8
  have Su9 : (fun W : World => (W.cell? ⟨w1.heap.size, 0, none⟩ = some (.int .i64 x.z) ∧ W.cell? ⟨w1.heap.size, 1, none⟩ = some (.slice x.AF x.F.length x.cF) ∧ W.cell? ⟨w1.heap.size, 2, none⟩ = some (.slice x.AB x.L.length x.cB) ∧ W.cell? ⟨w5.heap.size, 0, none⟩ = some (.int .i64 x.z) ∧ W.cell? ⟨w5.heap.size, 1, none⟩ = some (.slice A4 x.F.length n4) ∧ W.cell? ⟨w5.heap.size, 2, none⟩ = some (.slice A5 L1.length n5) ∧ W.cell? ⟨w8.heap.size, 0, none⟩ = some (.int .i64 x.z) ∧ W.cell? ⟨w8.heap.size, 1, none⟩ = some (.slice A6 x.F.length n6) ∧ W.cell? ⟨w8.heap.size, 2, none⟩ = some (.slice A7 L2.length n7) ∧ W.cell? ⟨w12.heap.size, 0, none⟩ = some (.int .i64 g0) ∧ W.cell? ⟨w12.heap.size, 1, none⟩ = some (.int .i64 g1) ∧ W.cell? ⟨w12.heap.size, 2, none⟩ = some (.int .i64 g2)) ∧ Below v.heap.size v W) u9 := ⟨⟨(bold hb9u9 _ _ (hq1)).trans S0.1.1, (bold hb9u9 _ _ (hq1)).trans S0.1.2.1, (bold hb9u9 _ _ (hq1)).trans S0.1.2.2.1, (bold hb9u9 _ _ (hq2)).trans S0.1.2.2.2.1, (bold hb9u9 _ _ (hq2)).trans S0.1.2.2.2.2.1, (bold hb9u9 _ _ (hq2)).trans S0.1.2.2.2.2.2.1, (bold hb9u9 _ _ (hq3)).trans S0.1.2.2.2.2.2.2.1, (bold hb9u9 _ _ (hq3)).trans S0.1.2.2.2.2.2.2.2.1, (bold hb9u9 _ _ (hq3)).trans S0.1.2.2.2.2.2.2.2.2.1, (bold hb9u9 _ _ (hq4)).trans S0.1.2.2.2.2.2.2.2.2.2.1, (bold hb9u9 _ _ (hq4)).trans S0.1.2.2.2.2.2.2.2.2.2.2.1, (bold hb9u9 _ _ (hq4)).trans S0.1.2.2.2.2.2.2.2.2.2.2.2⟩, hb9u9⟩
  refine hK.out _ _ Su9 (fun _ => ?_)
  clear hK K
  try simp only [Act.put, List.setIfInBounds_toArray, List.set_cons_zero, List.set_cons_succ]
  refine wpAnyH_ready (rs := [45]) (by kernel_rfl) (by simp) ?_
  refine AllReadyH.cons rfl (fun K hK => ?_) AllReadyH.nil
  go_simp
  try go_wp2_with fail
  go_at_call 13
  refine (room_any u9 u9.heap.size dA dc G hgl0 (Nat.le_refl _) HA9.out HB0.out).mono ?_
  rintro e u10 ⟨rfl, hb8⟩
  rw [HS0.out]
  go_wp2_with fail
  have hb9u10 : Below v.heap.size v u10 := bthen Su9.2 hb8
  have Su10 : (fun W : World => (W.cell? ⟨w1.heap.size, 0, none⟩ = some (.int .i64 x.z) ∧ W.cell? ⟨w1.heap.size, 1, none⟩ = some (.slice x.AF x.F.length x.cF) ∧ W.cell? ⟨w1.heap.size, 2, none⟩ = some (.slice x.AB x.L.length x.cB) ∧ W.cell? ⟨w5.heap.size, 0, none⟩ = some (.int .i64 x.z) ∧ W.cell? ⟨w5.heap.size, 1, none⟩ = some (.slice A4 x.F.length n4) ∧ W.cell? ⟨w5.heap.size, 2, none⟩ = some (.slice A5 L1.length n5) ∧ W.cell? ⟨w8.heap.size, 0, none⟩ = some (.int .i64 x.z) ∧ W.cell? ⟨w8.heap.size, 1, none⟩ = some (.slice A6 x.F.length n6) ∧ W.cell? ⟨w8.heap.size, 2, none⟩ = some (.slice A7 L2.length n7) ∧ W.cell? ⟨w12.heap.size, 0, none⟩ = some (.int .i64 g0) ∧ W.cell? ⟨w12.heap.size, 1, none⟩ = some (.int .i64 g1) ∧ W.cell? ⟨w12.heap.size, 2, none⟩ = some (.int .i64 g2)) ∧ Below v.heap.size v W) u10 := ⟨⟨(bold hb9u10 _ _ (hq1)).trans S0.1.1, (bold hb9u10 _ _ (hq1)).trans S0.1.2.1, (bold hb9u10 _ _ (hq1)).trans S0.1.2.2.1, (bold hb9u10 _ _ (hq2)).trans S0.1.2.2.2.1, (bold hb9u10 _ _ (hq2)).trans S0.1.2.2.2.2.1, (bold hb9u10 _ _ (hq2)).trans S0.1.2.2.2.2.2.1, (bold hb9u10 _ _ (hq3)).trans S0.1.2.2.2.2.2.2.1, (bold hb9u10 _ _ (hq3)).trans S0.1.2.2.2.2.2.2.2.1, (bold hb9u10 _ _ (hq3)).trans S0.1.2.2.2.2.2.2.2.2.1, (bold hb9u10 _ _ (hq4)).trans S0.1.2.2.2.2.2.2.2.2.2.1, (bold hb9u10 _ _ (hq4)).trans S0.1.2.2.2.2.2.2.2.2.2.2.1, (bold hb9u10 _ _ (hq4)).trans S0.1.2.2.2.2.2.2.2.2.2.2.2⟩, hb9u10⟩
  refine hK.out _ _ Su10 (fun _ => ?_)
  clear hK K
  try simp only [Act.put, List.setIfInBounds_toArray, List.set_cons_zero, List.set_cons_succ]
  refine any_take (i := 46) (some 129) (.bool true) rfl rfl (by kernel_rfl) (by kernel_rfl) (by kernel_rfl) (fun _ _ _ h => h) rfl (fun W hSw => ?_) (Su10) ?_
  · (try dsimp only at hSw); go_simp <;> with_reducible rfl
  try simp only [Act.put, List.setIfInBounds_toArray, List.set_cons_zero, List.set_cons_succ]
  refine any_take (i := 47) (some 130) (.bool true) rfl rfl (by kernel_rfl) (by kernel_rfl) (by kernel_rfl) (fun _ _ _ h => h) rfl (fun W hSw => ?_) (Su10) ?_
  · (try dsimp only at hSw); go_simp <;> with_reducible rfl
  try simp only [Act.put, List.setIfInBounds_toArray, List.set_cons_zero, List.set_cons_succ]
  refine any_take (i := 48) (some 2) (.bool true) rfl rfl (by kernel_rfl) (by kernel_rfl) (by kernel_rfl) (fun _ _ _ h => h) rfl (fun W hSw => ?_) (Su10) ?_
  · (try dsimp only at hSw); go_simp <;> with_reducible rfl
  try simp only [Act.put, List.setIfInBounds_toArray, List.set_cons_zero, List.set_cons_succ]
  refine wpAnyH_done (by kernel_rfl) ?_ _
  have hbreg : Below v.heap.size v u10 := Su10.2
  clear S0 Su1 hb9u1 Su2 hb9u2 Su3 hb9u3 Su4 hb9u4 Su5 hb9u5 Su6 hb9u6 Su7 hb9u7 Su8 hb9u8 Su9 hb9u9 Su10 hb9u10
  go_wp2_with fail
  go_ret
  exact ⟨rfl, HZ0.out.trans ((ZB.out.trans (hbreg.mono ZB.out.size)).mono hw01)⟩
end Go.Proofs.Ythmoonjceokijaa
