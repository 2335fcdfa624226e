/- Chapter 5: the walk of the law FnRevoking. -/
import Derived.Test.YtockjdaijhfgaaaGrH
import Derived.Test.YtockjdaijhfgaaaNdQ
import Derived.Test.YtockjdaijhfgaaaHasG
namespace Go.Proofs.Ytockjdaijhfgaaa
open Go.RowKit
set_option linter.unusedVariables false
set_option maxRecDepth 100000 in
set_option maxHeartbeats 16000000 in
theorem revoking_walk (w : World) (A : Option Addr) (na ca : Nat) (hn : na ≤ maxLen) (hS : BS w w.heap.size A na) : Calls Try.prog 5 #[.slice A na ca] w fun e w' => e = .returned (.bool true) ∧ Below w.heap.size w w' := by
  have HS := Lib.hid hS; clear hS
  have HBG := Lib.hid (fun W => big_any W A na ca hn)
  have HDR := Lib.hid (fun W (h : BS W W.heap.size A na) => ndfD_any W A na ca hn h)
  clear hn
  by_cases hbig : (1048576 : Int) < na
  · have hd : decide ((1048576 : Int) < na) = true := by simpa using hbig
    have HD := Lib.hid hd; clear hd
    go_enter Try.func5, Try.ntmps5
    go_wp2_with (refine (HBG.out _).mono ?_; rintro e w' ⟨rfl, hw⟩; rw [hw, HD.out]; clear hw)
    go_ret
    exact ⟨rfl, Below.refl _ _⟩
  have hd : decide ((1048576 : Int) < na) = false := by simpa using hbig
  have HD := Lib.hid hd; clear hd hbig
  go_enter Try.func5, Try.ntmps5
  go_wp2_with (go_at_call 7; refine (HBG.out _).mono ?_; rintro e w' ⟨rfl, hw⟩; rw [hw, HD.out]; clear hw)
  refine (HDR.out w HS.out).mono ?_
  rintro e w1 ⟨A0, c0, l, o, q, p, t, rfl, hl, ho, hq, hp, ht, hor, hb⟩
  have hs1 := hb.size
  have HG := Lib.hid hor.gr; have ZB := Lib.hid hb; clear hor hb ho hq hp ht
  have hl2 : l.length ≤ 1048576 := by omega
  obtain ⟨N, hN⟩ : ∃ N, needL l o q p t = N := ⟨_, rfl⟩
  obtain ⟨C, hC⟩ : ∃ C, (chainA l o q p t).getD [] = C := ⟨_, rfl⟩
  obtain ⟨M, hM⟩ : ∃ M, mayB l o q p t = M := ⟨_, rfl⟩
  have HCF := Lib.hid (show (chainA l o q p t).isSome = M by rw [← hM, may_chain])
  have HL6 := Lib.hid (show N.length ≤ 6 by rw [← hN]; exact need_six l o q p t)
  have HC6 := Lib.hid (show C.length ≤ 6 by rw [← hC]; exact chain_len l o q p t)
  have HIN := Lib.hid (show ∀ (n : Nat) (x : Int), N[n]? = some x → M = true ∧ hasB C x = true by rw [← hN, ← hC, ← hM]; exact fun n x hx => need_in hx)
  have HN := Lib.hid hN; have HC := Lib.hid hC; have HM := Lib.hid hM; clear hN hC hM
  go_wp2_with fail
  refine (needI_any w1 w1.heap.size A0 c0 l o q p t hl2 (Nat.le_refl _) HG.out).mono ?_
  rintro e w2 ⟨AN, cN, rfl, hoN, hb⟩
  rw [HN.out] at hoN ⊢
  have hs2 := hb.size
  have Z2 := Lib.hid hb; have HI2 := Lib.hid hoN.il; clear hb hoN
  go_wp2_with fail
  refine (needS_any w2 w1.heap.size A0 c0 l o q p t hl2 (by omega) (HG.out.below Z2.out)).mono ?_
  rintro e w3 ⟨AK, cK, rfl, hoK, hb⟩
  rw [HN.out] at hoK ⊢
  have hs3 := hb.size
  have Z3 := Lib.hid (bthen Z2.out hb); have HK := Lib.hid hoK.il; have HI := Lib.hid ((HI2.out.below hb).more hs3); clear hb hoK Z2 HI2
  go_wp2_with fail
  refine (sameL_any w3 w3.heap.size AN AK cN cK N (by have := HL6.out; omega) (Nat.le_refl _) HI.out HK.out).mono ?_
  rintro e w4 ⟨rfl, hb⟩
  have hs4 := hb.size
  have Z4 := Lib.hid (bthen Z3.out hb); have Y4 := Lib.hid hb; clear hb Z3 HK
  go_wp2_with fail
  refine (chainS2_any w4 w1.heap.size A0 c0 l o q p t hl2 (by omega) (HG.out.below Z4.out)).mono ?_
  rintro e w6 ⟨AC, cC, rfl, hoC, hb⟩
  dsimp only at hoC ⊢
  rw [HC.out] at hoC ⊢
  rw [HCF.out]
  have hs6 := hb.size
  have Z6 := Lib.hid (bthen Z4.out hb); have Y6 := Lib.hid (bthen Y4.out hb); have HIC := Lib.hid hoC.il; clear hb hoC Z4 Y4
  go_wp2_with fail
  have hN6 := HL6.out
  go_loopw [11] (fun i wr => ∃ n : Nat, n ≤ N.length ∧ i = .int .i64 n ∧ Below w6.heap.size w6 wr) (fun i _ => N.length - (intOf i).toNat)
  case atStart => exact ⟨0, Nat.zero_le _, rfl, Below.refl _ _⟩
  case round =>
    obtain ⟨n, hn, rfl, hbr⟩ := hrel
    have hsr := hbr.size
    have HBR := Lib.hid hbr; have YR := Lib.hid (bthen Y6.out hbr); clear hbr
    by_cases hlt : n < N.length
    · obtain ⟨b, off, x, rfl, hbB, hx, hc⟩ := (HI.out.below YR.out).at_ hlt
      obtain ⟨hMt, hhc⟩ := HIN.out n x hx
      subst hMt
      have HHC := Lib.hid hhc; clear hhc hx
      go_wp2_with fail
      refine (hasL_any wr w6.heap.size AC cC C x (by have := HC6.out; omega) hsr (HIC.out.below HBR.out)).mono ?_
      rintro e w7 ⟨rfl, hb⟩
      rw [HHC.out]
      have B7 := Lib.hid (bthen HBR.out hb); clear hb
      go_wp2_with fail
      go_roundw
      case rel => exact ⟨n + 1, by omega, by go_num, B7.out⟩
      case measure => simp [intOf]; omega
    · have hmn : n = N.length := by omega
      subst hmn
      go_wp2_with fail
      go_loopw [12] (fun i wr => ∃ k : Nat, k ≤ l.length ∧ i = .int .i64 k ∧ Below w6.heap.size w6 wr) (fun i _ => l.length - (intOf i).toNat)
      case atStart => exact ⟨0, Nat.zero_le _, rfl, HBR.out⟩
      case round =>
        clear HBR YR hsr
        obtain ⟨i, hi, rfl, hbr⟩ := hrel
        have hsr := hbr.size
        have HBR := Lib.hid hbr; have ZR := Lib.hid (bthen Z6.out hbr); have YR := Lib.hid (bthen Y6.out hbr); clear hbr
        have hzs := ZR.out.size
        by_cases hlt : i < l.length
        · by_cases h12 : (i : Int) < 12
          · obtain ⟨⟨Rl, Rk⟩, hR⟩ : ∃ R, revG l (i : Int) = R := ⟨_, rfl⟩
            have hRl : Rl.length ≤ 31 := by have := revG_len l (i : Int); rw [hR] at this; dsimp only at this; omega
            obtain ⟨V, hV⟩ : ∃ V, mayB Rl o q p t = V := ⟨_, rfl⟩
            have HR := Lib.hid hR; have HV := Lib.hid hV; clear hR hV
            have hne : (Rk != Rk) = false := bne_self_eq_false Rk
            go_wp2_with fail
            refine (revI_any wr w1.heap.size A0 c0 l (i : Int) hl2 (by omega) (HG.out.below ZR.out)).mono ?_
            rintro e w7 hans
            rw [HR.out] at hans; obtain ⟨A2, c2, rfl, hP, hb⟩ := hans
            dsimp only at hP ⊢
            have hs7 := hb.size
            have B7 := Lib.hid (bthen HBR.out hb); have Z7 := Lib.hid (bthen ZR.out hb); have Y7 := Lib.hid (bthen YR.out hb); have H2 := Lib.hid hP.gr; clear hb hP
            go_wp2_with fail
            refine (revS_any w7 w1.heap.size A0 c0 l (i : Int) hl2 (by omega) (HG.out.below Z7.out)).mono ?_
            rintro e w9 hans
            rw [HR.out] at hans; obtain ⟨A3, c3, rfl, hP, hb⟩ := hans
            dsimp only at hP ⊢
            have hs9 := hb.size
            have B9 := Lib.hid (bthen B7.out hb); have Y9 := Lib.hid (bthen Y7.out hb); have H3 := Lib.hid hP.gr; have H29 := Lib.hid ((H2.out.below hb).more hs9); clear hb hP H2 B7 Y7 Z7
            go_wp2_with fail
            refine (sameG_any w9 w9.heap.size A2 A3 c2 c3 Rl (by omega) (Nat.le_refl _) H29.out H3.out).mono ?_
            rintro e w11 ⟨rfl, hb⟩
            have hs11 := hb.size
            have B11 := Lib.hid (bthen B9.out hb); have Y11 := Lib.hid (bthen Y9.out hb); have H311 := Lib.hid (H3.out.below hb); clear hb H29 H3 B9 Y9
            go_wp2_with fail
            refine (mayI_any w11 w9.heap.size A3 c3 Rl o q p t (by omega) (by omega) H311.out).mono ?_
            rintro e w12 ⟨rfl, hb⟩
            rw [HV.out]
            have B12 := Lib.hid (bthen B11.out hb); have Y12 := Lib.hid (bthen Y11.out hb); clear hb B11 Y11 H311 hne
            cases Rk
            · cases V
              · cases M
                · go_wp2_with fail
                  go_roundw
                  case rel => exact ⟨i + 1, by omega, by go_num, B12.out⟩
                  case measure => simp [intOf]; omega
                · go_wp2_with fail
                  go_roundw
                  case rel => exact ⟨i + 1, by omega, by go_num, B12.out⟩
                  case measure => simp [intOf]; omega
              · cases M
                · exfalso; have := rev_may (l := l) (owner := o) (who := q) (p := p) (t := t) (i := (i : Int)) (by rw [HR.out]; exact HV.out); rw [HM.out] at this; cases this
                · go_wp2_with fail
                  go_roundw
                  case rel => exact ⟨i + 1, by omega, by go_num, B12.out⟩
                  case measure => simp [intOf]; omega
            · cases V
              · cases M
                · go_wp2_with fail
                  go_roundw
                  case rel => exact ⟨i + 1, by omega, by go_num, B12.out⟩
                  case measure => simp [intOf]; omega
                · go_wp2_with fail
                  have hh := has_need (l := l) (owner := o) (who := q) (p := p) (t := t) hlt HM.out (by rw [HR.out])
                  rw [HN.out, HR.out] at hh; dsimp only at hh; rw [HV.out] at hh
                  have HHN := Lib.hid hh; clear hh
                  refine (hasL_any w12 w3.heap.size AN cN N (i : Int) (by have := HL6.out; omega) (by have := Y12.out.size; omega) (HI.out.below Y12.out)).mono ?_
                  rintro e w13 ⟨rfl, hb⟩
                  rw [HHN.out]
                  have B13 := Lib.hid (bthen B12.out hb); clear hb
                  go_wp2_with fail
                  go_roundw
                  case rel => exact ⟨i + 1, by omega, by go_num, B13.out⟩
                  case measure => simp [intOf]; omega
              · cases M
                · exfalso; have := rev_may (l := l) (owner := o) (who := q) (p := p) (t := t) (i := (i : Int)) (by rw [HR.out]; exact HV.out); rw [HM.out] at this; cases this
                · go_wp2_with fail
                  have hh := has_need (l := l) (owner := o) (who := q) (p := p) (t := t) hlt HM.out (by rw [HR.out])
                  rw [HN.out, HR.out] at hh; dsimp only at hh; rw [HV.out] at hh
                  have HHN := Lib.hid hh; clear hh
                  refine (hasL_any w12 w3.heap.size AN cN N (i : Int) (by have := HL6.out; omega) (by have := Y12.out.size; omega) (HI.out.below Y12.out)).mono ?_
                  rintro e w13 ⟨rfl, hb⟩
                  rw [HHN.out]
                  have B13 := Lib.hid (bthen B12.out hb); clear hb
                  go_wp2_with fail
                  go_roundw
                  case rel => exact ⟨i + 1, by omega, by go_num, B13.out⟩
                  case measure => simp [intOf]; omega
          · skip
            have hd6 : decide ((N.length : Int) ≤ 6) = true := decide_eq_true (by have := HL6.out; omega)
            have hl6 : (N.length : Int) ≤ 6 := by have := HL6.out; omega
            go_wp2_with fail
            go_ret
            first | exact ⟨rfl, bthen (bthen ZB.out Z6.out) HBR.out⟩ | exact ⟨rbool hd6, bthen (bthen ZB.out Z6.out) HBR.out⟩
        · skip
          have hd6 : decide ((N.length : Int) ≤ 6) = true := decide_eq_true (by have := HL6.out; omega)
          have hl6 : (N.length : Int) ≤ 6 := by have := HL6.out; omega
          go_wp2_with fail
          go_ret
          first | exact ⟨rfl, bthen (bthen ZB.out Z6.out) HBR.out⟩ | exact ⟨rbool hd6, bthen (bthen ZB.out Z6.out) HBR.out⟩
end Go.Proofs.Ytockjdaijhfgaaa
