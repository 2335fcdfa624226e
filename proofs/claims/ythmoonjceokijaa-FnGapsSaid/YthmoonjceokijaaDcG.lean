/- Chapter 2: the law FnGaps: the walk (gen_gpw.py). -/
import Derived.Test.YthmoonjceokijaaDcC
import Derived.Deep.RegionHeld3
import Derived.Deep.DeepMust
import Derived.WalkLawsBesides
namespace Go.Proofs.Ythmoonjceokijaa
open Go.RowKit
set_option linter.unusedVariables false
theorem keep6C {w0 W W' : World} {q1 q2 : Nat} {a1 b1 c1 a2 b2 c2 : Value} (h1 : q1 < w0.heap.size) (h2 : q2 < w0.heap.size) (k : (W.cell? ⟨q1, 0, none⟩ = some a1 ∧ W.cell? ⟨q1, 1, none⟩ = some b1 ∧ W.cell? ⟨q1, 2, none⟩ = some c1 ∧ W.cell? ⟨q2, 0, none⟩ = some a2 ∧ W.cell? ⟨q2, 1, none⟩ = some b2 ∧ W.cell? ⟨q2, 2, none⟩ = some c2) ∧ Below w0.heap.size w0 W) (hb : Below W.heap.size W W') :
    (W'.cell? ⟨q1, 0, none⟩ = some a1 ∧ W'.cell? ⟨q1, 1, none⟩ = some b1 ∧ W'.cell? ⟨q1, 2, none⟩ = some c1 ∧ W'.cell? ⟨q2, 0, none⟩ = some a2 ∧ W'.cell? ⟨q2, 1, none⟩ = some b2 ∧ W'.cell? ⟨q2, 2, none⟩ = some c2) ∧ Below w0.heap.size w0 W' := by
  have hs := k.2.size
  have e1 : ∀ i, W'.cell? ⟨q1, i, none⟩ = W.cell? ⟨q1, i, none⟩ := fun i => hb.cell (p := ⟨q1, i, none⟩) (show q1 < _ by omega)
  have e2 : ∀ i, W'.cell? ⟨q2, i, none⟩ = W.cell? ⟨q2, i, none⟩ := fun i => hb.cell (p := ⟨q2, i, none⟩) (show q2 < _ by omega)
  exact ⟨⟨(e1 0).trans k.1.1, (e1 1).trans k.1.2.1, (e1 2).trans k.1.2.2.1, (e2 0).trans k.1.2.2.2.1, (e2 1).trans k.1.2.2.2.2.1, (e2 2).trans k.1.2.2.2.2.2⟩, k.2.trans (hb.mono hs)⟩
theorem oth_step {l : List Bx} {k : Nat} {y : Bx} (h : l[k]? = some y) : othZ (l.take (k + 1)) = othZ (l.take k) + (if (decide (0 < y.par) || y.jam) = true then y.size else 0) := by
  unfold othZ
  rw [List.take_add_one, h, Option.toList_some, List.filter_append, sumZ_app]
  congr 1
  by_cases c : (decide (0 < y.par) || y.jam) = true
  · rw [if_pos c, List.filter_cons_of_pos (by simpa using c)]; simp [sumZ]
  · rw [if_neg c, List.filter_cons_of_neg (by simpa using c)]; simp [sumZ]
theorem oth_bd {l : List Bx} (h : ∀ b ∈ l, 0 ≤ b.size ∧ b.size ≤ 24) : ∀ k, 0 ≤ othZ (l.take k) ∧ othZ (l.take k) ≤ 24 * (k : Int)
  | 0 => by simp [othZ, sumZ]
  | k + 1 => by
    have ih := oth_bd h k
    by_cases hk : k < l.length
    · have hx := List.getElem?_eq_getElem hk
      have := h _ (List.getElem_mem hk)
      rw [oth_step hx]
      push_cast
      split <;> omega
    · rw [List.take_of_length_le (by omega)] at ih ⊢
      push_cast; omega
set_option maxRecDepth 100000 in
set_option maxHeartbeats 16000000 in
theorem gapsW_walk (w : World) (A : Option Addr) (na ca : Nat) (hn : na ≤ maxLen) (hS : BS w w.heap.size A na) : Calls Try.prog 4 #[.slice A na ca] w fun e w' => e = .returned (.bool true) ∧ Below w.heap.size w w' := by
  have HS := Lib.hid hS; clear hS
  have HBG := Lib.hid (fun W => big_any W A na ca hn)
  have HDR := Lib.hid (fun W (h : BS W W.heap.size A na) => drawG_any W A na ca hn h)
  clear hn
  by_cases hbig : (1048576 : Int) < na
  · have hd : decide ((1048576 : Int) < na) = true := by simpa using hbig
    have HD := Lib.hid hd; clear hd
    go_enter Try.func4, Try.ntmps4
    go_wp2_with (refine (HBG.out _).mono ?_; rintro e w' ⟨rfl, hw⟩; rw [hw, HD.out]; clear hw)
    go_ret
    exact ⟨rfl, Below.refl _ _⟩
  have hd : decide ((1048576 : Int) < na) = false := by simpa using hbig
  have HD := Lib.hid hd; clear hd hbig
  go_enter Try.func4, Try.ntmps4
  go_wp2_with (go_at_call 5; refine (HBG.out _).mono ?_; rintro e w' ⟨rfl, hw⟩; rw [hw, HD.out]; clear hw)
  refine (HDR.out w HS.out).mono ?_
  rintro e w1 ⟨x, rfl, hF, hL, q1, q2, hb0⟩
  have HV := Lib.hid (CV.mk q1 q2 (by unfold maxLen; omega) (by unfold maxLen; omega) : CV w1 w1.heap.size x)
  have HZ0 := Lib.hid hb0; have hw01 := hb0.size; clear hb0 q1 q2 HBG HDR HS
  have hF1 : x.F.length ≤ 1048576 := by omega
  have hL1 : x.L.length ≤ 1048576 := by omega
  have hF2 : x.F.length ≤ maxLen := by unfold maxLen; omega
  obtain ⟨G, hG⟩ : ∃ G, gapsO x.z x.F x.L = G := ⟨_, rfl⟩
  obtain ⟨C, hC⟩ : ∃ C, clrO x.z x.F x.L = C := ⟨_, rfl⟩
  have hGl : G.length ≤ 24 := by rw [← hG]; exact gapsO_len _ _ _
  have hGb : ∀ g ∈ G, 0 ≤ g.size ∧ g.size ≤ 24 := by rw [← hG]; intro g hg; have := gapsO_bd g hg; omega
  have hCl : C.length ≤ 24 := by have := clrO_len x.z x.F x.L; rw [hC] at this; omega
  have hGl1 : G.length ≤ 1048576 := by omega
  have hCl1 : C.length ≤ 1048576 := by omega
  have HG := Lib.hid hG; have HC := Lib.hid hC; have HGB := Lib.hid hGb; clear hG hC hGb
  go_wp2_with fail
  generalize hX : (w1.alloc (.cells #[.int .i64 x.z, .slice x.AF x.F.length x.cF, .slice x.AB x.L.length x.cB] 27)) = w2
  have hb : Below w1.heap.size w1 w2 := by rw [← hX]; exact balloc _ _
  have hk : Has w2 w1.heap.size 27 #[.int .i64 x.z, .slice x.AF x.F.length x.cF, .slice x.AB x.L.length x.cB] := by rw [← hX]; exact has_new _ _ _
  clear hX
  have ZB := Lib.hid hb; have hs2 := hb.size; have hl2 := has_lt hk; have ZC := Lib.hid hk; clear hb hk
  refine (gapsI_any w2 w1.heap.size x ZB.out.size (HV.out.later (Nat.le_refl _) ZB.out)).mono ?_
  rintro e w3 hans
  rw [HG.out] at hans
  obtain ⟨gA, gc, rfl, hg, hb⟩ := hans
  have G3 := Lib.hid hg.gp; clear hg
  have kk := has_call ZC.out hb; clear ZC; have ZC := Lib.hid kk; clear kk
  have kk := bthen ZB.out hb; clear ZB; have ZB := Lib.hid kk; clear kk
  have hsw3 := hb.size; clear hb
  have hlw3 := has_lt ZC.out
  have zc0 := has_cell ZC.out 0 rfl; have zc1 := has_cell ZC.out 1 rfl; have zc2 := has_cell ZC.out 2 rfl
  go_wp2_with fail
  clear zc0 zc1 zc2
  refine (clrI_any w3 w1.heap.size x hF1 hL1 ZB.out.size (HV.out.later (Nat.le_refl _) ZB.out)).mono ?_
  rintro e w4 ⟨z1, F1, C1, A2, A3, n2, n3, rfl, ⟨rfl, rfl, hcl⟩, _, _, or2, or3, hb⟩
  rw [HC.out] at hcl
  have hcl := hcl.symm
  subst hcl
  have Y1 := Lib.hid or2.il; have Y2 := Lib.hid or3.xl; clear or2 or3
  have kk := has_call ZC.out hb; clear ZC; have ZC := Lib.hid kk; clear kk
  have kk := (G3.out.below hb).more hb.size; clear G3; have G3 := Lib.hid kk; clear kk
  have kk := bthen ZB.out hb; clear ZB; have ZB := Lib.hid kk; clear kk
  have hsw4 := hb.size; clear hb
  have hlw4 := has_lt ZC.out
  have zc0 := has_cell ZC.out 0 rfl; have zc1 := has_cell ZC.out 1 rfl; have zc2 := has_cell ZC.out 2 rfl
  go_upto_region 6 with fail
  clear zc0 zc1 zc2
  generalize hX : (w4.alloc (.cells #[.int .i64 x.z, .slice A2 x.F.length n2, .slice A3 C.length n3] 27)) = w5
  have hb : Below w4.heap.size w4 w5 := by rw [← hX]; exact balloc _ _
  have hk : Has w5 w4.heap.size 27 #[.int .i64 x.z, .slice A2 x.F.length n2, .slice A3 C.length n3] := by rw [← hX]; exact has_new _ _ _
  clear hX
  have kk := has_call ZC.out hb; clear ZC; have ZC := Lib.hid kk; clear kk
  have kk := (G3.out.below hb).more hb.size; clear G3; have G3 := Lib.hid kk; clear kk
  have kk := (Y1.out.below hb).more hb.size; clear Y1; have Y1 := Lib.hid kk; clear kk
  have kk := (Y2.out.below hb).more hb.size; clear Y2; have Y2 := Lib.hid kk; clear kk
  have kk := bthen ZB.out hb; clear ZB; have ZB := Lib.hid kk; clear kk
  have hsw5 := hb.size; clear hb
  have hlw5 := has_lt ZC.out
  have ZY := Lib.hid hk; clear hk; have hly := has_lt ZY.out
  have hlZ : w1.heap.size < w5.heap.size := has_lt ZC.out
  have hlY : w4.heap.size < w5.heap.size := has_lt ZY.out
  go_cut [27] (fun p W => p = .bool false ∧ Below w5.heap.size w5 W)
  case first =>
    have HV5 := Lib.hid (HV.out.later (Nat.le_refl _) ZB.out)
    have hZ5 := ZB.out.size
    have HVd := Lib.hid (show CV w5.drew w1.heap.size x from ⟨HV5.out.f.below (Below.refl _ _).drew, HV5.out.b.below (Below.refl _ _).drew, HV5.out.lf, HV5.out.lb⟩)
    have S0 : (fun W : World => ((W.cell? ⟨w1.heap.size, 0, none⟩ = some (.int .i64 x.z) ∧ W.cell? ⟨w1.heap.size, 1, none⟩ = some (.slice x.AF x.F.length x.cF) ∧ W.cell? ⟨w1.heap.size, 2, none⟩ = some (.slice x.AB x.L.length x.cB) ∧ W.cell? ⟨w4.heap.size, 0, none⟩ = some (.int .i64 x.z) ∧ W.cell? ⟨w4.heap.size, 1, none⟩ = some (.slice A2 x.F.length n2) ∧ W.cell? ⟨w4.heap.size, 2, none⟩ = some (.slice A3 C.length n3)) ∧ Below w5.heap.size w5 W)) w5.drew := ⟨⟨has_cell ZC.out 0 rfl, has_cell ZC.out 1 rfl, has_cell ZC.out 2 rfl, has_cell ZY.out 0 rfl, has_cell ZY.out 1 rfl, has_cell ZY.out 2 rfl⟩, (Below.refl _ _).drew⟩
    go_region_held3 (fun W : World => ((W.cell? ⟨w1.heap.size, 0, none⟩ = some (.int .i64 x.z) ∧ W.cell? ⟨w1.heap.size, 1, none⟩ = some (.slice x.AF x.F.length x.cF) ∧ W.cell? ⟨w1.heap.size, 2, none⟩ = some (.slice x.AB x.L.length x.cB) ∧ W.cell? ⟨w4.heap.size, 0, none⟩ = some (.int .i64 x.z) ∧ W.cell? ⟨w4.heap.size, 1, none⟩ = some (.slice A2 x.F.length n2) ∧ W.cell? ⟨w4.heap.size, 2, none⟩ = some (.slice A3 C.length n3)) ∧ Below w5.heap.size w5 W)) (first | assumption) (first
      | (go_at_call 14; refine (gapsS_any w5.drew w1.heap.size x hZ5 HVd.out).mono ?_; rintro e u1 ⟨sA, sc, rfl, hs, hbu1⟩; rw [HG.out] at hs ⊢; have HSG := Lib.hid hs.gp; have hu1 := hbu1.size; have Su1 : (fun W : World => ((W.cell? ⟨w1.heap.size, 0, none⟩ = some (.int .i64 x.z) ∧ W.cell? ⟨w1.heap.size, 1, none⟩ = some (.slice x.AF x.F.length x.cF) ∧ W.cell? ⟨w1.heap.size, 2, none⟩ = some (.slice x.AB x.L.length x.cB) ∧ W.cell? ⟨w4.heap.size, 0, none⟩ = some (.int .i64 x.z) ∧ W.cell? ⟨w4.heap.size, 1, none⟩ = some (.slice A2 x.F.length n2) ∧ W.cell? ⟨w4.heap.size, 2, none⟩ = some (.slice A3 C.length n3)) ∧ Below w5.heap.size w5 W)) u1 := keep6C hlZ hlY (by with_reducible assumption) hbu1)
      | (go_at_call 18; refine (sameG_any u1 w5.heap.size u1.heap.size gA sA gc sc G hGl1 Su1.2.size (Nat.le_refl _) (G3.out.below Su1.2) HSG.out).mono ?_; rintro e u2 ⟨rfl, hbu2⟩; have Su2 : (fun W : World => ((W.cell? ⟨w1.heap.size, 0, none⟩ = some (.int .i64 x.z) ∧ W.cell? ⟨w1.heap.size, 1, none⟩ = some (.slice x.AF x.F.length x.cF) ∧ W.cell? ⟨w1.heap.size, 2, none⟩ = some (.slice x.AB x.L.length x.cB) ∧ W.cell? ⟨w4.heap.size, 0, none⟩ = some (.int .i64 x.z) ∧ W.cell? ⟨w4.heap.size, 1, none⟩ = some (.slice A2 x.F.length n2) ∧ W.cell? ⟨w4.heap.size, 2, none⟩ = some (.slice A3 C.length n3)) ∧ Below w5.heap.size w5 W)) u2 := keep6C hlZ hlY (by with_reducible assumption) hbu2)
      | (go_at_call 19; refine (clrS_any u2 w1.heap.size x hF1 hL1 (Nat.le_trans hZ5 Su2.2.size) (HV5.out.later hZ5 Su2.2)).mono ?_; rintro e u3 ⟨z1, F1, C1, B2, B3, m2, m3, rfl, ⟨rfl, rfl, hcl⟩, _, _, or2, or3, hbu3⟩; rw [HC.out] at hcl; have hcl := hcl.symm; subst hcl; have Su3 : (fun W : World => ((W.cell? ⟨w1.heap.size, 0, none⟩ = some (.int .i64 x.z) ∧ W.cell? ⟨w1.heap.size, 1, none⟩ = some (.slice x.AF x.F.length x.cF) ∧ W.cell? ⟨w1.heap.size, 2, none⟩ = some (.slice x.AB x.L.length x.cB) ∧ W.cell? ⟨w4.heap.size, 0, none⟩ = some (.int .i64 x.z) ∧ W.cell? ⟨w4.heap.size, 1, none⟩ = some (.slice A2 x.F.length n2) ∧ W.cell? ⟨w4.heap.size, 2, none⟩ = some (.slice A3 C.length n3)) ∧ Below w5.heap.size w5 W)) u3 := keep6C hlZ hlY (by with_reducible assumption) hbu3)
      | (go_at_call 9; refine (sameC_any u3 w5.heap.size u3.heap.size x.z A2 A3 B2 B3 n2 n3 m2 m3 x.F C hF1 hCl1 Su3.2.size (Nat.le_refl _) (Y1.out.below Su3.2) (Y2.out.below Su3.2) or2.il or3.xl).mono ?_; rintro e u4 ⟨rfl, hbu4⟩; have Su4 : (fun W : World => ((W.cell? ⟨w1.heap.size, 0, none⟩ = some (.int .i64 x.z) ∧ W.cell? ⟨w1.heap.size, 1, none⟩ = some (.slice x.AF x.F.length x.cF) ∧ W.cell? ⟨w1.heap.size, 2, none⟩ = some (.slice x.AB x.L.length x.cB) ∧ W.cell? ⟨w4.heap.size, 0, none⟩ = some (.int .i64 x.z) ∧ W.cell? ⟨w4.heap.size, 1, none⟩ = some (.slice A2 x.F.length n2) ∧ W.cell? ⟨w4.heap.size, 2, none⟩ = some (.slice A3 C.length n3)) ∧ Below w5.heap.size w5 W)) u4 := keep6C hlZ hlY (by with_reducible assumption) hbu4))
    all_goals (go_wp2_with fail)
    all_goals (go_meet; with_reducible exact ⟨rfl, Su4.2⟩)
  case rest =>
    rename World => w6
    obtain ⟨rfl, hb⟩ := hcut
    have kk := has_call ZC.out hb; clear ZC; have ZC := Lib.hid kk; clear kk
    have kk := has_call ZY.out hb; clear ZY; have ZY := Lib.hid kk; clear kk
    have kk := (G3.out.below hb).more hb.size; clear G3; have G3 := Lib.hid kk; clear kk
    have kk := (Y1.out.below hb).more hb.size; clear Y1; have Y1 := Lib.hid kk; clear kk
    have kk := (Y2.out.below hb).more hb.size; clear Y2; have Y2 := Lib.hid kk; clear kk
    have kk := bthen ZB.out hb; clear ZB; have ZB := Lib.hid kk; clear kk
    have hsw6 := hb.size; clear hb
    have hlw6 := has_lt ZC.out
    have zc0 := has_cell ZC.out 0 rfl; have zc1 := has_cell ZC.out 1 rfl; have zc2 := has_cell ZC.out 2 rfl
    have zy0 := has_cell ZY.out 0 rfl; have zy1 := has_cell ZY.out 1 rfl; have zy2 := has_cell ZY.out 2 rfl
    go_wp2_with fail
    clear zc0 zc1 zc2 zy0 zy1 zy2
    refine (colI_any w6 w1.heap.size x ZB.out.size (HV.out.later (Nat.le_refl _) ZB.out)).mono ?_
    rintro e w7 ⟨q, rfl, hq, hb⟩
    have HQ := Lib.hid hq; clear hq
    have kk := has_call ZC.out hb; clear ZC; have ZC := Lib.hid kk; clear kk
    have kk := has_call ZY.out hb; clear ZY; have ZY := Lib.hid kk; clear kk
    have kk := (G3.out.below hb).more hb.size; clear G3; have G3 := Lib.hid kk; clear kk
    have kk := (Y1.out.below hb).more hb.size; clear Y1; have Y1 := Lib.hid kk; clear kk
    have kk := (Y2.out.below hb).more hb.size; clear Y2; have Y2 := Lib.hid kk; clear kk
    have kk := bthen ZB.out hb; clear ZB; have ZB := Lib.hid kk; clear kk
    have hsw7 := hb.size; clear hb
    have hlw7 := has_lt ZC.out
    cases q
    · have hno : ¬ ColOk x.z x.F x.L := fun g => (by have := HQ.out.2 g; cases this)
      have hG0 : G = [] := by rw [← HG.out]; exact gapsO_no hno
      have hC0 : C = x.L := by rw [← HC.out]; exact clrO_no hno
      subst hG0
      subst hC0
      have zc0 := has_cell ZC.out 0 rfl; have zc1 := has_cell ZC.out 1 rfl; have zc2 := has_cell ZC.out 2 rfl
      have zy0 := has_cell ZY.out 0 rfl; have zy1 := has_cell ZY.out 1 rfl; have zy2 := has_cell ZY.out 2 rfl
      go_wp2_with fail
      clear zc0 zc1 zc2 zy0 zy1 zy2
      refine (sameC_any w7 w7.heap.size w7.heap.size x.z A2 A3 x.AF x.AB n2 n3 x.cF x.cB x.F x.L hF1 hL1 (Nat.le_refl _) (Nat.le_refl _) Y1.out Y2.out ((HV.out.later (Nat.le_refl _) ZB.out).f.more ZB.out.size) ((HV.out.later (Nat.le_refl _) ZB.out).b.more ZB.out.size)).mono ?_
      rintro e w8 ⟨rfl, hb⟩
      have kk := has_call ZC.out hb; clear ZC; have ZC := Lib.hid kk; clear kk
      have kk := has_call ZY.out hb; clear ZY; have ZY := Lib.hid kk; clear kk
      have kk := (G3.out.below hb).more hb.size; clear G3; have G3 := Lib.hid kk; clear kk
      have kk := (Y1.out.below hb).more hb.size; clear Y1; have Y1 := Lib.hid kk; clear kk
      have kk := (Y2.out.below hb).more hb.size; clear Y2; have Y2 := Lib.hid kk; clear kk
      have kk := bthen ZB.out hb; clear ZB; have ZB := Lib.hid kk; clear kk
      have hsw8 := hb.size; clear hb
      have hlw8 := has_lt ZC.out
      have zc0 := has_cell ZC.out 0 rfl; have zc1 := has_cell ZC.out 1 rfl; have zc2 := has_cell ZC.out 2 rfl
      have zy0 := has_cell ZY.out 0 rfl; have zy1 := has_cell ZY.out 1 rfl; have zy2 := has_cell ZY.out 2 rfl
      go_wp2_with fail
      clear zc0 zc1 zc2 zy0 zy1 zy2
      refine (colS_any w8 w1.heap.size x ZB.out.size (HV.out.later (Nat.le_refl _) ZB.out)).mono ?_
      rintro e w9 ⟨q9, rfl, hq9, hb⟩
      obtain rfl : q9 = false := by cases q9; rfl; exact absurd (hq9.1 rfl) hno
      clear hq9
      have kk := has_call ZC.out hb; clear ZC; have ZC := Lib.hid kk; clear kk
      have kk := has_call ZY.out hb; clear ZY; have ZY := Lib.hid kk; clear kk
      have kk := (G3.out.below hb).more hb.size; clear G3; have G3 := Lib.hid kk; clear kk
      have kk := (Y1.out.below hb).more hb.size; clear Y1; have Y1 := Lib.hid kk; clear kk
      have kk := (Y2.out.below hb).more hb.size; clear Y2; have Y2 := Lib.hid kk; clear kk
      have kk := bthen ZB.out hb; clear ZB; have ZB := Lib.hid kk; clear kk
      have hsw9 := hb.size; clear hb
      have hlw9 := has_lt ZC.out
      go_wp2_with fail
      go_ret
      exact ⟨rfl, HZ0.out.trans (ZB.out.mono hw01)⟩
    · have hok : ColOk x.z x.F x.L := HQ.out.1 rfl
      have hGe : G = gapsL x.F 0 x.L := by rw [← HG.out]; exact gapsO_ok hok
      have hCe : C = clrL x.F x.L := by rw [← HC.out]; exact clrO_ok hok
      have hCok : ColOk x.z x.F C := by rw [hCe]; exact col_clr hok
      have hGC : gapsO x.z x.F C = G := by rw [gapsO_ok hCok, hCe, hGe]; exact clr_gaps x.F 0 x.L.length x.L (Nat.le_refl _)
      have hroom : gsum G + othZ x.L = x.z := by rw [hGe]; exact room_col hok
      have hbox : ∀ b ∈ x.L, 0 ≤ b.size ∧ b.size ≤ 24 := fun b hb => by
        obtain ⟨k, hk⟩ := List.getElem?_of_mem hb
        have h1 := (size_le hok.box hok.top hk).2.1; have h2 := (col_sum hok).1 b hb; have h3 := hok.fix.hi; omega
      have hzz := hok.fix.hi; have hzl := hok.fix.lo
      have HOK := Lib.hid hCok; have HGC := Lib.hid hGC; have HRM := Lib.hid hroom; have HBX := Lib.hid (oth_bd hbox); clear hok hGe hCe hCok hGC hroom hbox
      have zc0 := has_cell ZC.out 0 rfl; have zc1 := has_cell ZC.out 1 rfl; have zc2 := has_cell ZC.out 2 rfl
      have zy0 := has_cell ZY.out 0 rfl; have zy1 := has_cell ZY.out 1 rfl; have zy2 := has_cell ZY.out 2 rfl
      go_wp2_with fail
      clear zc0 zc1 zc2 zy0 zy1 zy2
      go_loopw [6, 7] (fun s i wr => ∃ k : Nat, k ≤ x.L.length ∧ i = .int .i64 (k : Int) ∧ s = .int .i64 (othZ (x.L.take k)) ∧ wr = w7) (fun _ i _ => x.L.length - (intOf i).toNat)
      case atStart => exact ⟨0, Nat.zero_le _, rfl, by simp [othZ, sumZ], rfl⟩
      case round =>
        obtain ⟨k, hk, rfl, rfl, rfl⟩ := hrel
        by_cases hlt : k < x.L.length
        · obtain ⟨b, off, y, hA, hbB, hy, hc0, hc1, hc2, hc3⟩ := (HV.out.later (Nat.le_refl _) ZB.out).b.at_ hlt
          have h1 := HBX.out k
          have h2 := HBX.out (k + 1)
          have hst := oth_step hy
          push_cast at h2
          have HST := Lib.hid hst; rw [hst] at h2; clear hst
          generalize othZ (x.L.take k) = s at *
          have zc0 := has_cell ZC.out 0 rfl; have zc1 := has_cell ZC.out 1 rfl; have zc2 := has_cell ZC.out 2 rfl
          rw [hA] at zc2
          obtain ⟨hkk0, hkk1⟩ : (0 : Int) ≤ (k : Int) ∧ (k : Int) < (x.L.length : Int) := by omega
          by_cases c1 : 0 < y.par
          · rw [if_pos (by simp [c1])] at h2 HST
            have c1d : decide (0 < y.par) = true := by simpa using c1
            go_wp2_with fail
            go_roundw
            case rel => exact ⟨k + 1, by omega, by go_num, (by rw [HST.out]; try rw [Int.add_zero]), by first | rfl | trivial⟩
            case measure => simp [intOf]; omega
          cases hj : y.jam
          · rw [if_neg (by simp [c1, hj])] at h2 HST
            have c1d : decide (0 < y.par) = false := by simpa using c1
            rw [hj] at hc3
            go_wp2_with fail
            go_roundw
            case rel => exact ⟨k + 1, by omega, by go_num, (by rw [HST.out]; try rw [Int.add_zero]), by first | rfl | trivial⟩
            case measure => simp [intOf]; omega
          · rw [if_pos (by simp [hj])] at h2 HST
            have c1d : decide (0 < y.par) = false := by simpa using c1
            rw [hj] at hc3
            go_wp2_with fail
            go_roundw
            case rel => exact ⟨k + 1, by omega, by go_num, (by rw [HST.out]; try rw [Int.add_zero]), by first | rfl | trivial⟩
            case measure => simp [intOf]; omega
        have hkl : k = x.L.length := by omega
        subst hkl
        rw [List.take_length]
        have hrm := HRM.out; have hob := HBX.out x.L.length; rw [List.take_length] at hob
        have hgb := gsum_bd HGB.out G.length; rw [List.take_length] at hgb
        generalize othZ x.L = oz at *
        generalize hgs : gsum G = gs at *
        have HGS := Lib.hid hgs; clear hgs hlt
        have zc0 := has_cell ZC.out 0 rfl; have zc1 := has_cell ZC.out 1 rfl; have zc2 := has_cell ZC.out 2 rfl
        have zy0 := has_cell ZY.out 0 rfl; have zy1 := has_cell ZY.out 1 rfl; have zy2 := has_cell ZY.out 2 rfl
        go_upto_region 16 with fail
        clear zc0 zc1 zc2 zy0 zy1 zy2
        have hlZ : w1.heap.size < wr.heap.size := has_lt ZC.out
        have hlY : w4.heap.size < wr.heap.size := has_lt ZY.out
        have HYd := Lib.hid (show CV wr.drew wr.heap.size ⟨x.z, A2, x.F, n2, A3, C, n3⟩ from ⟨Y1.out.below (Below.refl _ _).drew, Y2.out.below (Below.refl _ _).drew, hF2, by show C.length ≤ maxLen; unfold maxLen; omega⟩)
        have HYw := Lib.hid (show CV wr wr.heap.size ⟨x.z, A2, x.F, n2, A3, C, n3⟩ from ⟨Y1.out, Y2.out, hF2, by show C.length ≤ maxLen; unfold maxLen; omega⟩)
        have hci := colI_any wr.drew wr.heap.size ⟨x.z, A2, x.F, n2, A3, C, n3⟩ (Nat.le_refl _) HYd.out
        dsimp only at hci
        have hci2 := hci.mono (R' := fun e w' => e = .returned (.bool true) ∧ Below wr.drew.heap.size wr.drew w') (fun e w' ⟨q1, he, hq1, hb⟩ => ⟨by rw [he, show q1 = true from hq1.2 HOK.out], hb⟩)
        have HCI := Lib.hid hci2; clear hci hci2
        have hgi := fun (W : World) (h : Below wr.heap.size wr W) => gapsI_any W wr.heap.size ⟨x.z, A2, x.F, n2, A3, C, n3⟩ h.size (HYw.out.later (Nat.le_refl _) h)
        dsimp only at hgi
        rw [HGC.out] at hgi
        have HGI := Lib.hid hgi; clear hgi
        have hwz : (IntKind.i64.wrap x.z == x.z) = true := by rw [IntWalk.i64_in x.z (by omega)]; simp
        have HV5 := Lib.hid (HV.out.later (Nat.le_refl _) ZB.out)
        have hZ5 := ZB.out.size
        have HVd := Lib.hid (show CV wr.drew w1.heap.size x from ⟨HV5.out.f.below (Below.refl _ _).drew, HV5.out.b.below (Below.refl _ _).drew, HV5.out.lf, HV5.out.lb⟩)
        have S0 : (fun W : World => ((W.cell? ⟨w1.heap.size, 0, none⟩ = some (.int .i64 x.z) ∧ W.cell? ⟨w1.heap.size, 1, none⟩ = some (.slice x.AF x.F.length x.cF) ∧ W.cell? ⟨w1.heap.size, 2, none⟩ = some (.slice x.AB x.L.length x.cB) ∧ W.cell? ⟨w4.heap.size, 0, none⟩ = some (.int .i64 x.z) ∧ W.cell? ⟨w4.heap.size, 1, none⟩ = some (.slice A2 x.F.length n2) ∧ W.cell? ⟨w4.heap.size, 2, none⟩ = some (.slice A3 C.length n3)) ∧ Below wr.heap.size wr W)) wr.drew := ⟨⟨has_cell ZC.out 0 rfl, has_cell ZC.out 1 rfl, has_cell ZC.out 2 rfl, has_cell ZY.out 0 rfl, has_cell ZY.out 1 rfl, has_cell ZY.out 2 rfl⟩, (Below.refl _ _).drew⟩
        go_region_held3 (fun W : World => ((W.cell? ⟨w1.heap.size, 0, none⟩ = some (.int .i64 x.z) ∧ W.cell? ⟨w1.heap.size, 1, none⟩ = some (.slice x.AF x.F.length x.cF) ∧ W.cell? ⟨w1.heap.size, 2, none⟩ = some (.slice x.AB x.L.length x.cB) ∧ W.cell? ⟨w4.heap.size, 0, none⟩ = some (.int .i64 x.z) ∧ W.cell? ⟨w4.heap.size, 1, none⟩ = some (.slice A2 x.F.length n2) ∧ W.cell? ⟨w4.heap.size, 2, none⟩ = some (.slice A3 C.length n3)) ∧ Below wr.heap.size wr W)) (first | assumption) (first
          | (go_at_call 12; refine (HCI.out).mono ?_; rintro e u1 ⟨rfl, hbu1⟩; have Su1 : (fun W : World => ((W.cell? ⟨w1.heap.size, 0, none⟩ = some (.int .i64 x.z) ∧ W.cell? ⟨w1.heap.size, 1, none⟩ = some (.slice x.AF x.F.length x.cF) ∧ W.cell? ⟨w1.heap.size, 2, none⟩ = some (.slice x.AB x.L.length x.cB) ∧ W.cell? ⟨w4.heap.size, 0, none⟩ = some (.int .i64 x.z) ∧ W.cell? ⟨w4.heap.size, 1, none⟩ = some (.slice A2 x.F.length n2) ∧ W.cell? ⟨w4.heap.size, 2, none⟩ = some (.slice A3 C.length n3)) ∧ Below wr.heap.size wr W)) u1 := keep6C hlZ hlY (by with_reducible assumption) hbu1)
          | (go_at_call 16; refine (HGI.out u1 Su1.2).mono ?_; rintro e u2 ⟨sA, sc, rfl, hs, hbu2⟩; have HSG := Lib.hid hs.gp; have Su2 : (fun W : World => ((W.cell? ⟨w1.heap.size, 0, none⟩ = some (.int .i64 x.z) ∧ W.cell? ⟨w1.heap.size, 1, none⟩ = some (.slice x.AF x.F.length x.cF) ∧ W.cell? ⟨w1.heap.size, 2, none⟩ = some (.slice x.AB x.L.length x.cB) ∧ W.cell? ⟨w4.heap.size, 0, none⟩ = some (.int .i64 x.z) ∧ W.cell? ⟨w4.heap.size, 1, none⟩ = some (.slice A2 x.F.length n2) ∧ W.cell? ⟨w4.heap.size, 2, none⟩ = some (.slice A3 C.length n3)) ∧ Below wr.heap.size wr W)) u2 := keep6C hlZ hlY (by with_reducible assumption) hbu2)
          | (go_at_call 18; refine (sameG_any u2 u2.heap.size wr.heap.size sA gA sc gc G hGl1 (Nat.le_refl _) Su2.2.size HSG.out (G3.out.below Su2.2)).mono ?_; rintro e u3 ⟨rfl, hbu3⟩; have Su3 : (fun W : World => ((W.cell? ⟨w1.heap.size, 0, none⟩ = some (.int .i64 x.z) ∧ W.cell? ⟨w1.heap.size, 1, none⟩ = some (.slice x.AF x.F.length x.cF) ∧ W.cell? ⟨w1.heap.size, 2, none⟩ = some (.slice x.AB x.L.length x.cB) ∧ W.cell? ⟨w4.heap.size, 0, none⟩ = some (.int .i64 x.z) ∧ W.cell? ⟨w4.heap.size, 1, none⟩ = some (.slice A2 x.F.length n2) ∧ W.cell? ⟨w4.heap.size, 2, none⟩ = some (.slice A3 C.length n3)) ∧ Below wr.heap.size wr W)) u3 := keep6C hlZ hlY (by with_reducible assumption) hbu3)
          | (go_at_call 13; refine (room_any u3 wr.heap.size gA gc G hGl1 Su3.2.size (G3.out.below Su3.2) HGB.out).mono ?_; rintro e u4 ⟨rfl, hbu4⟩; rw [HGS.out]; have Su4 : (fun W : World => ((W.cell? ⟨w1.heap.size, 0, none⟩ = some (.int .i64 x.z) ∧ W.cell? ⟨w1.heap.size, 1, none⟩ = some (.slice x.AF x.F.length x.cF) ∧ W.cell? ⟨w1.heap.size, 2, none⟩ = some (.slice x.AB x.L.length x.cB) ∧ W.cell? ⟨w4.heap.size, 0, none⟩ = some (.int .i64 x.z) ∧ W.cell? ⟨w4.heap.size, 1, none⟩ = some (.slice A2 x.F.length n2) ∧ W.cell? ⟨w4.heap.size, 2, none⟩ = some (.slice A3 C.length n3)) ∧ Below wr.heap.size wr W)) u4 := keep6C hlZ hlY (by with_reducible assumption) hbu4))
        all_goals (go_wp2_with fail)
        all_goals go_ret
        all_goals exact ⟨by first | rfl | exact ret_bool hwz, HZ0.out.trans ((ZB.out.trans (Su4.2.mono ZB.out.size)).mono hw01)⟩
end Go.Proofs.Ythmoonjceokijaa
