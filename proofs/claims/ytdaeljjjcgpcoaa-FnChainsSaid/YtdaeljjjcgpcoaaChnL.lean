/- Chapter 5: the walk of the law FnChains. -/
import Derived.Test.YtdaeljjjcgpcoaaGrH
import Derived.Test.YtdaeljjjcgpcoaaChnQ
import Derived.Test.YtdaeljjjcgpcoaaLeadW
import Derived.Test.YtdaeljjjcgpcoaaHas
namespace Go.Proofs.Ytdaeljjjcgpcoaa
open Go.RowKit
set_option linter.unusedVariables false
set_option maxRecDepth 100000 in
set_option maxHeartbeats 16000000 in
theorem chains_walk (w : World) (A : Option Addr) (na ca : Nat) (hn : na ≤ maxLen) (hS : BS w w.heap.size A na) : Calls Try.prog 3 #[.slice A na ca] w fun e w' => e = .returned (.bool true) ∧ Below w.heap.size w w' := by
  have HS := Lib.hid hS; clear hS
  have HBG := Lib.hid (fun W => big_any W A na ca hn)
  have HDR := Lib.hid (fun W (h : BS W W.heap.size A na) => chnD_any W A na ca hn h)
  clear hn
  by_cases hbig : (1048576 : Int) < na
  · have hd : decide ((1048576 : Int) < na) = true := by simpa using hbig
    have HD := Lib.hid hd; clear hd
    go_enter Try.func3, Try.ntmps3
    go_wp2_with (refine (HBG.out _).mono ?_; rintro e w' ⟨rfl, hw⟩; rw [hw, HD.out]; clear hw)
    go_ret
    exact ⟨rfl, Below.refl _ _⟩
  have hd : decide ((1048576 : Int) < na) = false := by simpa using hbig
  have HD := Lib.hid hd; clear hd hbig
  go_enter Try.func3, Try.ntmps3
  go_wp2_with (go_at_call 4; refine (HBG.out _).mono ?_; rintro e w' ⟨rfl, hw⟩; rw [hw, HD.out]; clear hw)
  refine (HDR.out w HS.out).mono ?_
  rintro e w1 ⟨A0, c0, l, o, q, p, t, rfl, hl, ho, hq, hp, ht, hor, hb⟩
  have hs1 := hb.size
  have HG := Lib.hid hor.gr; have ZB := Lib.hid hb; clear hor hb ho hq hp ht
  have hl2 : l.length ≤ 1048576 := by omega
  obtain ⟨C, hC⟩ : ∃ C, (chainA l o q p t).getD [] = C := ⟨_, rfl⟩
  obtain ⟨M, hM⟩ : ∃ M, mayB l o q p t = M := ⟨_, rfl⟩
  have HCF := Lib.hid (show (chainA l o q p t).isSome = M by rw [← hM, may_chain])
  have HC6 := Lib.hid (show C.length ≤ 6 by rw [← hC]; exact chain_len l o q p t)
  have HC := Lib.hid hC; have HM := Lib.hid hM; clear hC hM
  have nM : (M != M) = false := by simp
  go_wp2_with fail
  refine (chainI2_any w1 w1.heap.size A0 c0 l o q p t hl2 (Nat.le_refl _) HG.out).mono ?_
  rintro e w2 ⟨AN, cN, rfl, hoN, hb⟩
  dsimp only at hoN ⊢
  rw [HC.out] at hoN ⊢
  rw [HCF.out]
  have hs2 := hb.size
  have Z2 := Lib.hid hb; have HI2 := Lib.hid hoN.il; clear hb hoN
  go_wp2_with fail
  refine (chainS2_any w2 w1.heap.size A0 c0 l o q p t hl2 (by omega) (HG.out.below Z2.out)).mono ?_
  rintro e w3 ⟨AK, cK, rfl, hoK, hb⟩
  dsimp only at hoK ⊢
  rw [HC.out] at hoK ⊢
  rw [HCF.out]
  have hs3 := hb.size
  have Z3 := Lib.hid (bthen Z2.out hb); have HK := Lib.hid hoK.il; have HI := Lib.hid ((HI2.out.below hb).more hs3); clear hb hoK Z2 HI2
  go_wp2_with fail
  refine (sameL_any w3 w3.heap.size AN AK cN cK C (by have := HC6.out; omega) (Nat.le_refl _) HI.out HK.out).mono ?_
  rintro e w4 ⟨rfl, hb⟩
  have hs4 := hb.size
  have Z4 := Lib.hid (bthen Z3.out hb); have Y4 := Lib.hid hb; clear hb Z3 HK
  go_wp2_with fail
  refine (mayI_any w4 w1.heap.size A0 c0 l o q p t hl2 (by omega) (HG.out.below Z4.out)).mono ?_
  rintro e w5 ⟨rfl, hb⟩
  rw [HM.out]
  have hs5 := hb.size
  have Z5 := Lib.hid (bthen Z4.out hb); have Y5 := Lib.hid (bthen Y4.out hb); clear hb Z4 Y4
  cases hgood : goodB l o q p t
  · obtain ⟨g1, g2⟩ := good_not hgood
    obtain rfl : M = false := by rw [← HM.out]; exact g2
    clear g1 g2 nM
    obtain ⟨V, hV⟩ : ∃ V, grantsB l = V := ⟨_, rfl⟩
    have hno : V = false ∨ o < 1 ∨ 40 < o ∨ q < 1 ∨ 40 < q ∨ p < 1 ∨ 999 < p ∨ t < 0 ∨ 20000 < t := by
      rw [← hV]
      cases hgr : grantsB l
      · exact .inl rfl
      · right
        rcases Classical.em (o < 1 ∨ 40 < o ∨ q < 1 ∨ 40 < q ∨ p < 1 ∨ 999 < p ∨ t < 0 ∨ 20000 < t) with h | h
        · exact h
        · exfalso
          have : goodB l o q p t = true := by
            unfold goodB perB timB; simp only [Bool.and_eq_true]
            exact ⟨⟨⟨⟨hgr, inR_iff.2 (by omega)⟩, inR_iff.2 (by omega)⟩, inR_iff.2 (by omega)⟩, inR_iff.2 (by omega)⟩
          rw [this] at hgood; cases hgood
    have HV := Lib.hid hV; clear hV hgood
    go_wp2_with fail
    refine (grantsS_any w5 w1.heap.size A0 c0 l (by unfold maxLen; omega) (by omega) (HG.out.below Z5.out)).mono ?_
    rintro e w6 ⟨rfl, hb⟩
    rw [HV.out]
    have Z6 := Lib.hid (bthen Z5.out hb); clear hb
    cases V
    · go_wp2_with fail
      go_ret
      exact ⟨rfl, bthen ZB.out Z6.out⟩
    · have hno2 : o < 1 ∨ 40 < o ∨ q < 1 ∨ 40 < q ∨ p < 1 ∨ 999 < p ∨ t < 0 ∨ 20000 < t := by
        rcases hno with h | h
        · cases h
        · exact h
      clear hno
      rcases hno2 with h | h | h | h | h | h | h | h
      all_goals go_wp2_with fail
      all_goals (go_ret; exact ⟨rfl, bthen ZB.out Z6.out⟩)
  · have hgr : grantsB l = true := by unfold goodB at hgood; simp only [Bool.and_eq_true] at hgood; exact hgood.1.1.1.1
    have hrs : (1 ≤ o ∧ o ≤ 40) ∧ (1 ≤ q ∧ q ≤ 40) ∧ (1 ≤ p ∧ p ≤ 999) ∧ (0 ≤ t ∧ t ≤ 20000) := by
      have h9 := hgood
      unfold goodB perB timB at h9; simp only [Bool.and_eq_true] at h9
      exact ⟨inR_iff.1 h9.1.1.1.2, inR_iff.1 h9.1.1.2, inR_iff.1 h9.1.2, inR_iff.1 h9.2⟩
    obtain ⟨⟨o1, o2⟩, ⟨q1, q2⟩, ⟨p1, p2⟩, ⟨t1, t2⟩⟩ := hrs
    have HGR := Lib.hid hgr; have HGO := Lib.hid hgood; clear hgr hgood
    go_wp2_with fail
    refine (grantsS_any w5 w1.heap.size A0 c0 l (by unfold maxLen; omega) (by omega) (HG.out.below Z5.out)).mono ?_
    rintro e w6 ⟨rfl, hb⟩
    rw [HGR.out]
    have hs6 := hb.size
    have Z6 := Lib.hid (bthen Z5.out hb); have Y6 := Lib.hid (bthen Y5.out hb); clear hb Z5 Y5
    by_cases h12 : (12 : Int) < l.length
    · go_wp2_with fail
      go_ret
      exact ⟨rfl, bthen ZB.out Z6.out⟩
    go_wp2_with fail
    go_loopw [12, 13] (fun mv iv wr => ∃ (h m : Int), iv = .int .i64 h ∧ mv = .int .i64 m ∧ -1 ≤ h ∧ h ≤ 6 ∧ LeastC l p t q o h m ∧ Below w6.heap.size w6 wr) (fun _ iv _ => (intOf iv + 1).toNat)
    case atStart => exact ⟨6, -1, rfl, rfl, by omega, by omega, leastC_start, Below.refl _ _⟩
    case round =>
      obtain ⟨h, m, rfl, rfl, h0, h1, hlc, hbr⟩ := hrel
      have hmr := leastC_range hlc
      obtain ⟨m0, m1⟩ := hmr
      have HLC := Lib.hid hlc; clear hlc
      have hsr := hbr.size
      have ZR := Lib.hid (bthen Z6.out hbr); have YR := Lib.hid (bthen Y6.out hbr); have HBR := Lib.hid hbr; clear hbr
      by_cases hh : 0 ≤ h
      · obtain ⟨k, hk⟩ := Int.eq_ofNat_of_zero_le hh
        cases hr : rhB l p t 0 q k o
        · have HNX := Lib.hid (show LeastC l p t q o (h - 1) m by rw [hk]; exact leastC_no hr (by rw [← hk]; exact HLC.out))
          have HR := Lib.hid hr; have HK := Lib.hid hk; clear hr hk
          go_wp2_with fail
          refine (leads_any l p t q hl2 k wr w1.heap.size A0 c0 o h HK.out (by omega) (by have := ZR.out.size; omega) (HG.out.below ZR.out)).mono ?_
          rintro e w7 ⟨rfl, hb⟩
          rw [HR.out]
          have B7 := Lib.hid (bthen HBR.out hb); clear hb
          go_wp2_with fail
          go_roundw
          case rel => exact ⟨h - 1, m, rfl, rfl, by omega, by omega, HNX.out, B7.out⟩
          case measure => simp [intOf]; omega
        · have HNX := Lib.hid (show LeastC l p t q o (h - 1) h by rw [hk]; exact leastC_yes (by omega) hr)
          have HR := Lib.hid hr; have HK := Lib.hid hk; clear hr hk
          go_wp2_with fail
          refine (leads_any l p t q hl2 k wr w1.heap.size A0 c0 o h HK.out (by omega) (by have := ZR.out.size; omega) (HG.out.below ZR.out)).mono ?_
          rintro e w7 ⟨rfl, hb⟩
          rw [HR.out]
          have B7 := Lib.hid (bthen HBR.out hb); clear hb
          go_wp2_with fail
          go_roundw
          case rel => exact ⟨h - 1, h, rfl, rfl, by omega, by omega, HNX.out, B7.out⟩
          case measure => simp [intOf]; omega
      · rename World => wz
        obtain rfl : h = -1 := by omega
        have hC6 := HC6.out
        have hlen : (C.length : Int) ≤ 6 := by omega
        rcases leastC_end HLC.out with ⟨hm, hsh⟩ | ⟨j, hm, hj6, hsh, hrj⟩
        · have hca := chainA_none HGO.out hsh
          obtain rfl : M = false := by rw [← HCF.out, hca]; rfl
          obtain rfl : C = [] := by rw [← HC.out, hca]; rfl
          subst hm
          clear hca hsh nM
          go_wp2_with fail
          go_loopw [14, 15] (fun av iv wr2 => iv = .int .i64 0 ∧ Below wz.heap.size wz wr2) (fun _ _ _ => 0)
          case atStart => exact ⟨rfl, Below.refl _ _⟩
          case round =>
            obtain ⟨rfl, hb⟩ := hrel
            have HB := Lib.hid (bthen ZR.out hb); clear hb
            go_wp2_with fail
            go_ret
            exact ⟨rfl, bthen ZB.out HB.out⟩
        · have hca := chainA_some HGO.out hsh
          obtain rfl : M = true := by rw [← HCF.out, hca]; rfl
          have hCe : C = chainL l p t q j o := by rw [← HC.out, hca]; rfl
          have hcl : C.length = j := by rw [hCe]; exact ch_len j o hrj
          have hst : ChainAt l p t q C j 0 o := by rw [hCe]; exact chainAt_start hrj
          subst hcl
          have HST := Lib.hid hst; clear hst hCe hca hsh hrj nM
          subst hm
          have nl : ((C.length : Int) != (C.length : Int)) = false := by simp
          go_wp2_with fail
          clear nl
          go_loopw [14, 15] (fun av iv wr2 => ∃ (i : Nat) (x : Int), i ≤ C.length ∧ iv = .int .i64 i ∧ av = .int .i64 x ∧ ChainAt l p t q C C.length i x ∧ Below wz.heap.size wz wr2) (fun _ iv _ => C.length - (intOf iv).toNat)
          case atStart => exact ⟨0, o, Nat.zero_le _, rfl, rfl, HST.out, Below.refl _ _⟩
          case round =>
            obtain ⟨i, x, hi, rfl, rfl, hat, hb⟩ := hrel
            have hsw := hb.size
            have ZW := Lib.hid (bthen ZR.out hb); have YW := Lib.hid (bthen YR.out hb); have HBW := Lib.hid hb; clear hb
            by_cases hlt : i < C.length
            · obtain ⟨n, ⟨x0, x1, x2, x3, x4, x5, x6⟩, e1, e2, e3, e4, e5, e6⟩ := chainAt_next hat hlt
              dsimp only at e3 e5 e6
              subst e3
              have hnl : n < l.length := (List.getElem?_eq_some_iff.1 e2).1
              obtain ⟨bb, off, hAe, hbB, hcs⟩ : ∃ b off, AN = some ⟨b, off, none⟩ ∧ b < wr.heap.size ∧ wr.cell? ⟨b, off + i, none⟩ = some (.int .i64 (n : Int)) := by
                rcases HI.out.below YW.out with h9 | ⟨b, off, h9, h10, h11⟩
                · rw [h9] at hlt; simp at hlt
                · exact ⟨b, off, h9, by have := YW.out.size; omega, h11 i n e1⟩
              obtain ⟨b2, off2, y, hA2, hb2, e7, hd0, hd1, hd2, hd3, hd4, hd5, hd6⟩ := (HG.out.below ZW.out).at_ hnl
              rw [e2] at e7; injection e7 with e7; subst e7
              dsimp only at hd0 hd1 hd2 hd3 hd4 hd5 hd6
              subst hAe hA2
              have HE4 := Lib.hid e4; have HE6 := Lib.hid e6; clear e1 e2 e4 e6 hat
              have nx : (x0 != x0) = false := by simp
              have hi0 : (0 : Int) ≤ (i : Int) := by omega
              have hi1 : (i : Int) < (C.length : Int) := by omega
              have hn0 : (0 : Int) ≤ (n : Int) := by omega
              have hn1 : (n : Int) < (l.length : Int) := by omega
              go_wp2_with fail
              refine (appI_any wr x0 x1 x2 x3 x4 x5 x6 p t).mono ?_
              rintro e w8 ⟨rfl, hb8⟩
              rw [HE4.out]
              have hcs := (bold hb8 _ _ hbB).trans hcs
              have B8 := Lib.hid (bthen HBW.out hb8)
              have hbb2 : b2 < wr.heap.size := by have := ZW.out.size; omega
              have hd0 := (bold hb8 _ _ hbb2).trans hd0; have hd1 := (bold hb8 _ _ hbb2).trans hd1; have hd3 := (bold hb8 _ _ hbb2).trans hd3
              clear hb8
              go_wp2_with fail
              go_roundw
              case rel => exact ⟨i + 1, x1, by omega, by go_num, rfl, HE6.out, B8.out⟩
              case measure => simp [intOf]; omega
            · obtain rfl : i = C.length := by omega
              obtain rfl := chainAt_end hat
              have nx : (x == x) = true := by simp
              go_wp2_with fail
              go_ret
              exact ⟨rfl, bthen ZB.out ZW.out⟩
end Go.Proofs.Ytdaeljjjcgpcoaa
