/- Chapter 6: the walk of the exact law of CheapestTerms (gen_feel.py). -/
import Derived.Test.YthdncneahdiieaaFeeG
import Derived.Test.YthdncneahdiieaaFeeR
import Derived.Deep.RegionHeld3
import Derived.Deep.DeepMust
namespace Go.Proofs.Ythdncneahdiieaa
open Go.RowKit
set_option linter.unusedVariables false
set_option maxRecDepth 100000 in
set_option maxHeartbeats 8000000 in
theorem chpLaw_walk (A A' : Option Addr) (n n' : Nat) (o c : List (Int × Int)) (AT : Option Addr) (cT : Nat) (LT : List Tm) (AF : Option Addr) (cF : Nat) (L : List St) (w : World) (ho : o.length ≤ maxLen) (hc : c.length ≤ maxLen) (hS : SL w w.heap.size A o) (hS' : SL w w.heap.size A' c) (lLT : LT.length ≤ maxLen) (hLT : tmL w w.heap.size AT LT) (lL : L.length ≤ maxLen) (hL : stL w w.heap.size AF L) : Calls Try.prog 7 #[.agg #[.slice A o.length n, .slice A' c.length n'], .slice AT LT.length cT, .slice AF L.length cF] w fun e w' => e = .returned (.bool true) ∧ Below w.heap.size w w' := by
  have HS := Lib.hid hS; clear hS
  have HS' := Lib.hid hS'; clear hS'
  have HLT := Lib.hid hLT; clear hLT
  have HL := Lib.hid hL; clear hL
  obtain ⟨s0, hs0⟩ : ∃ s, szW 1048576 o.length c.length = s := ⟨_, rfl⟩
  by_cases hbig0 : s0 < 0
  · skip
    have Hs0 := Lib.hid hs0; clear hs0
    go_enter Try.func7, Try.ntmps7
    go_wp2_with fail
    generalize hX : (w.alloc (.cells #[.slice A o.length n, .slice A' c.length n'] 24)) = w1
    have hb : Below w.heap.size w w1 := by rw [← hX]; exact balloc _ _
    have hk : Has w1 w.heap.size 24 #[.slice A o.length n, .slice A' c.length n'] := by rw [← hX]; exact has_new _ _ _
    have hzw1 : w1.heap.size = w.heap.size + 1 := by rw [← hX]; simp
    clear hX
    have zb := hb; clear hb
    have za := hk; clear hk
    clear hzw1
    have hsw0 := zb.size
    have zac0 := has_cell za 0 rfl; have zac1 := has_cell za 1 rfl
    have zalt := has_lt za
    have ZAH := Lib.hid za; clear za
    have ZB := Lib.hid zb; clear zb
    go_wp2_with fail
    clear zac0 zac1 zalt
    have za := ZAH.out; clear ZAH
    have zb := ZB.out; clear ZB
    refine (szW_any _ A A' o.length n c.length n' 1048576 ho hc (by omega) (by omega)).mono ?_
    rintro e w2 ⟨rfl, hb⟩
    rw [Hs0.out]
    have hsw2 := hb.size
    replace za := has_call za hb
    replace zb := bthen zb hb; clear hb
    have zac0 := has_cell za 0 rfl; have zac1 := has_cell za 1 rfl
    have zalt := has_lt za
    have ZAH := Lib.hid za; clear za
    have ZB := Lib.hid zb; clear zb
    go_wp2_with fail
    clear zac0 zac1 zalt
    have za := ZAH.out; clear ZAH
    have zb := ZB.out; clear ZB
    go_ret
    exact ⟨rfl, zb⟩
  have hlen : o.length ≤ 1048576 ∧ c.length ≤ 1048576 ∧ s0 ≤ 1048576 := by
    subst hs0
    unfold szW szI at hbig0 ⊢
    split at hbig0
    · omega
    · rename_i hq; rw [if_neg hq]; split at hbig0
      · omega
      · rename_i hq2; rw [if_neg hq2]; omega
  obtain ⟨lo, lc, ls0⟩ := hlen
  have Hs0 := Lib.hid hs0; clear hs0
  obtain ⟨s1, hs1⟩ : ∃ s, szI s0 LT.length = s := ⟨_, rfl⟩
  by_cases hbig1 : s1 < 0
  · skip
    have Hs1 := Lib.hid hs1; clear hs1
    go_enter Try.func7, Try.ntmps7
    go_wp2_with fail
    generalize hX : (w.alloc (.cells #[.slice A o.length n, .slice A' c.length n'] 24)) = w1
    have hb : Below w.heap.size w w1 := by rw [← hX]; exact balloc _ _
    have hk : Has w1 w.heap.size 24 #[.slice A o.length n, .slice A' c.length n'] := by rw [← hX]; exact has_new _ _ _
    have hzw1 : w1.heap.size = w.heap.size + 1 := by rw [← hX]; simp
    clear hX
    have zb := hb; clear hb
    have za := hk; clear hk
    clear hzw1
    have hsw0 := zb.size
    have zac0 := has_cell za 0 rfl; have zac1 := has_cell za 1 rfl
    have zalt := has_lt za
    have ZAH := Lib.hid za; clear za
    have ZB := Lib.hid zb; clear zb
    go_wp2_with fail
    clear zac0 zac1 zalt
    have za := ZAH.out; clear ZAH
    have zb := ZB.out; clear ZB
    refine (szW_any _ A A' o.length n c.length n' 1048576 ho hc (by omega) (by omega)).mono ?_
    rintro e w2 ⟨rfl, hb⟩
    rw [Hs0.out]
    have hsw2 := hb.size
    replace za := has_call za hb
    replace zb := bthen zb hb; clear hb
    have zac0 := has_cell za 0 rfl; have zac1 := has_cell za 1 rfl
    have zalt := has_lt za
    have ZAH := Lib.hid za; clear za
    have ZB := Lib.hid zb; clear zb
    go_wp2_with fail
    clear zac0 zac1 zalt
    have za := ZAH.out; clear ZAH
    have zb := ZB.out; clear ZB
    refine (szTerms_any _ AT LT.length cT s0 lLT (by omega) (by omega)).mono ?_
    rintro e w3 ⟨rfl, hw⟩
    rw [hw]; clear hw w3
    rw [Hs1.out]
    have zac0 := has_cell za 0 rfl; have zac1 := has_cell za 1 rfl
    have zalt := has_lt za
    have ZAH := Lib.hid za; clear za
    have ZB := Lib.hid zb; clear zb
    go_wp2_with fail
    clear zac0 zac1 zalt
    have za := ZAH.out; clear ZAH
    have zb := ZB.out; clear ZB
    go_ret
    exact ⟨rfl, zb⟩
  have hlen : LT.length ≤ 1048576 ∧ s1 ≤ 1048576 := by
    subst hs1
    unfold szI at hbig1 ⊢
    split at hbig1
    · omega
    · rename_i hq; rw [if_neg hq]; omega
  obtain ⟨mLT, ls1⟩ := hlen
  have Hs1 := Lib.hid hs1; clear hs1
  obtain ⟨s2, hs2⟩ : ∃ s, szI s1 L.length = s := ⟨_, rfl⟩
  by_cases hbig2 : s2 < 0
  · skip
    have Hs2 := Lib.hid hs2; clear hs2
    go_enter Try.func7, Try.ntmps7
    go_wp2_with fail
    generalize hX : (w.alloc (.cells #[.slice A o.length n, .slice A' c.length n'] 24)) = w1
    have hb : Below w.heap.size w w1 := by rw [← hX]; exact balloc _ _
    have hk : Has w1 w.heap.size 24 #[.slice A o.length n, .slice A' c.length n'] := by rw [← hX]; exact has_new _ _ _
    have hzw1 : w1.heap.size = w.heap.size + 1 := by rw [← hX]; simp
    clear hX
    have zb := hb; clear hb
    have za := hk; clear hk
    clear hzw1
    have hsw0 := zb.size
    have zac0 := has_cell za 0 rfl; have zac1 := has_cell za 1 rfl
    have zalt := has_lt za
    have ZAH := Lib.hid za; clear za
    have ZB := Lib.hid zb; clear zb
    go_wp2_with fail
    clear zac0 zac1 zalt
    have za := ZAH.out; clear ZAH
    have zb := ZB.out; clear ZB
    refine (szW_any _ A A' o.length n c.length n' 1048576 ho hc (by omega) (by omega)).mono ?_
    rintro e w2 ⟨rfl, hb⟩
    rw [Hs0.out]
    have hsw2 := hb.size
    replace za := has_call za hb
    replace zb := bthen zb hb; clear hb
    have zac0 := has_cell za 0 rfl; have zac1 := has_cell za 1 rfl
    have zalt := has_lt za
    have ZAH := Lib.hid za; clear za
    have ZB := Lib.hid zb; clear zb
    go_wp2_with fail
    clear zac0 zac1 zalt
    have za := ZAH.out; clear ZAH
    have zb := ZB.out; clear ZB
    refine (szTerms_any _ AT LT.length cT s0 lLT (by omega) (by omega)).mono ?_
    rintro e w3 ⟨rfl, hw⟩
    rw [hw]; clear hw w3
    rw [Hs1.out]
    have zac0 := has_cell za 0 rfl; have zac1 := has_cell za 1 rfl
    have zalt := has_lt za
    have ZAH := Lib.hid za; clear za
    have ZB := Lib.hid zb; clear zb
    go_wp2_with fail
    clear zac0 zac1 zalt
    have za := ZAH.out; clear ZAH
    have zb := ZB.out; clear ZB
    refine (szStay_any _ AF L.length cF s1 lL (by omega) (by omega)).mono ?_
    rintro e w4 ⟨rfl, hw⟩
    rw [hw]; clear hw w4
    rw [Hs2.out]
    have zac0 := has_cell za 0 rfl; have zac1 := has_cell za 1 rfl
    have zalt := has_lt za
    have ZAH := Lib.hid za; clear za
    have ZB := Lib.hid zb; clear zb
    go_wp2_with fail
    clear zac0 zac1 zalt
    have za := ZAH.out; clear ZAH
    have zb := ZB.out; clear ZB
    go_ret
    exact ⟨rfl, zb⟩
  have hlen : L.length ≤ 1048576 ∧ s2 ≤ 1048576 := by
    subst hs2
    unfold szI at hbig2 ⊢
    split at hbig2
    · omega
    · rename_i hq; rw [if_neg hq]; omega
  obtain ⟨mL, ls2⟩ := hlen
  have Hs2 := Lib.hid hs2; clear hs2
  obtain ⟨V, hq⟩ : ∃ V, bestB o c LT L = V := ⟨_, rfl⟩
  have HV := Lib.hid hq; clear hq
  have nv : (V != V) = false := by simp
  go_enter Try.func7, Try.ntmps7
  go_wp2_with fail
  generalize hX : (w.alloc (.cells #[.slice A o.length n, .slice A' c.length n'] 24)) = w1
  have hb : Below w.heap.size w w1 := by rw [← hX]; exact balloc _ _
  have hk : Has w1 w.heap.size 24 #[.slice A o.length n, .slice A' c.length n'] := by rw [← hX]; exact has_new _ _ _
  have hzw1 : w1.heap.size = w.heap.size + 1 := by rw [← hX]; simp
  clear hX
  have zb := hb; clear hb
  have za := hk; clear hk
  clear hzw1
  have hsw0 := zb.size
  have zac0 := has_cell za 0 rfl; have zac1 := has_cell za 1 rfl
  have zalt := has_lt za
  have ZAH := Lib.hid za; clear za
  have ZB := Lib.hid zb; clear zb
  go_wp2_with fail
  clear zac0 zac1 zalt
  have za := ZAH.out; clear ZAH
  have zb := ZB.out; clear ZB
  refine (szW_any _ A A' o.length n c.length n' 1048576 ho hc (by omega) (by omega)).mono ?_
  rintro e w2 ⟨rfl, hb⟩
  rw [Hs0.out]
  have hsw2 := hb.size
  replace za := has_call za hb
  replace zb := bthen zb hb; clear hb
  have zac0 := has_cell za 0 rfl; have zac1 := has_cell za 1 rfl
  have zalt := has_lt za
  have ZAH := Lib.hid za; clear za
  have ZB := Lib.hid zb; clear zb
  go_wp2_with fail
  clear zac0 zac1 zalt
  have za := ZAH.out; clear ZAH
  have zb := ZB.out; clear ZB
  refine (szTerms_any _ AT LT.length cT s0 lLT (by omega) (by omega)).mono ?_
  rintro e w3 ⟨rfl, hw⟩
  rw [hw]; clear hw w3
  rw [Hs1.out]
  have zac0 := has_cell za 0 rfl; have zac1 := has_cell za 1 rfl
  have zalt := has_lt za
  have ZAH := Lib.hid za; clear za
  have ZB := Lib.hid zb; clear zb
  go_wp2_with fail
  clear zac0 zac1 zalt
  have za := ZAH.out; clear ZAH
  have zb := ZB.out; clear ZB
  refine (szStay_any _ AF L.length cF s1 lL (by omega) (by omega)).mono ?_
  rintro e w4 ⟨rfl, hw⟩
  rw [hw]; clear hw w4
  rw [Hs2.out]
  have zac0 := has_cell za 0 rfl; have zac1 := has_cell za 1 rfl
  have zalt := has_lt za
  have ZAH := Lib.hid za; clear za
  have ZB := Lib.hid zb; clear zb
  go_wp2_with fail
  clear zac0 zac1 zalt
  have za := ZAH.out; clear ZAH
  have zb := ZB.out; clear ZB
  refine (toWeek_any _ w.heap.size A A' n n' o c lo lc zb.size (HS.out.below zb) (HS'.out.below zb)).mono ?_
  rintro e w5 ⟨xsA, xsB, rfl, h5, h6, hb⟩
  have hsw5 := hb.size
  replace za := has_call za hb
  replace zb := bthen zb hb; clear hb
  have SL_xs := Lib.hid h5; have SL_xsk := Lib.hid h6; clear h5 h6
  have zac0 := has_cell za 0 rfl; have zac1 := has_cell za 1 rfl
  have zalt := has_lt za
  have ZAH := Lib.hid za; clear za
  have ZB := Lib.hid zb; clear zb
  go_wp2_with fail
  clear zac0 zac1 zalt
  have za := ZAH.out; clear ZAH
  have zb := ZB.out; clear ZB
  refine (toTermsS_any _ w.heap.size AT cT LT mLT zb.size (HLT.out.below zb)).mono ?_
  rintro e w6 ⟨rtA, rtn, rfl, hP, hb⟩
  have kk := SL.later SL_xs.out (by omega) hb; clear SL_xs; have SL_xs := Lib.hid kk; clear kk
  have kk := SL.later SL_xsk.out (by omega) hb; clear SL_xsk; have SL_xsk := Lib.hid kk; clear kk
  have hsw6 := hb.size
  replace za := has_call za hb
  replace zb := bthen zb hb; clear hb
  have RI_rt := Lib.hid (OI.of_or hP); clear hP
  have zac0 := has_cell za 0 rfl; have zac1 := has_cell za 1 rfl
  have zalt := has_lt za
  have ZAH := Lib.hid za; clear za
  have ZB := Lib.hid zb; clear zb
  go_wp2_with fail
  clear zac0 zac1 zalt
  have za := ZAH.out; clear ZAH
  have zb := ZB.out; clear ZB
  refine (toStayS_any _ w.heap.size AF cF L mL zb.size (HL.out.below zb)).mono ?_
  rintro e w7 ⟨rsA, rsn, rfl, hP, hb⟩
  have kk := SL.later SL_xs.out (by omega) hb; clear SL_xs; have SL_xs := Lib.hid kk; clear kk
  have kk := SL.later SL_xsk.out (by omega) hb; clear SL_xsk; have SL_xsk := Lib.hid kk; clear kk
  have kk := OI.call RI_rt.out hb; clear RI_rt; have RI_rt := Lib.hid kk; clear kk
  have hsw7 := hb.size
  replace za := has_call za hb
  replace zb := bthen zb hb; clear hb
  have RI_rs := Lib.hid (OI.of_or hP); clear hP
  have zac0 := has_cell za 0 rfl; have zac1 := has_cell za 1 rfl
  have zalt := has_lt za
  have ZAH := Lib.hid za; clear za
  have ZB := Lib.hid zb; clear zb
  go_wp2_with fail
  clear zac0 zac1 zalt
  have za := ZAH.out; clear ZAH
  have zb := ZB.out; clear ZB
  refine (cheapS_any _ w7.heap.size xsA xsB o.length c.length o c rtA rtn LT rsA rsn L ho hc (Nat.le_refl _) (SL.more SL_xs.out (by omega)) (SL.more SL_xsk.out (by omega)) lLT RI_rt.out.tm lL RI_rs.out.st).mono ?_
  rintro e w8 ⟨rfl, hb⟩
  rw [HV.out]
  have kk := SL.later SL_xs.out (by omega) hb; clear SL_xs; have SL_xs := Lib.hid kk; clear kk
  have kk := SL.later SL_xsk.out (by omega) hb; clear SL_xsk; have SL_xsk := Lib.hid kk; clear kk
  have kk := OI.call RI_rt.out hb; clear RI_rt; have RI_rt := Lib.hid kk; clear kk
  have kk := OI.call RI_rs.out hb; clear RI_rs; have RI_rs := Lib.hid kk; clear kk
  have hsw8 := hb.size
  replace za := has_call za hb
  replace zb := bthen zb hb; clear hb
  have zac0 := has_cell za 0 rfl; have zac1 := has_cell za 1 rfl
  have zalt := has_lt za
  have ZAH := Lib.hid za; clear za
  have ZB := Lib.hid zb; clear zb
  go_wp2_with fail
  clear zac0 zac1 zalt
  have za := ZAH.out; clear ZAH
  have zb := ZB.out; clear ZB
  refine (toWeek_any _ w.heap.size A A' n n' o c lo lc zb.size (HS.out.below zb) (HS'.out.below zb)).mono ?_
  rintro e w9 ⟨xxA, xxB, rfl, h5, h6, hb⟩
  have kk := SL.later SL_xs.out (by omega) hb; clear SL_xs; have SL_xs := Lib.hid kk; clear kk
  have kk := SL.later SL_xsk.out (by omega) hb; clear SL_xsk; have SL_xsk := Lib.hid kk; clear kk
  have kk := OI.call RI_rt.out hb; clear RI_rt; have RI_rt := Lib.hid kk; clear kk
  have kk := OI.call RI_rs.out hb; clear RI_rs; have RI_rs := Lib.hid kk; clear kk
  have hsw9 := hb.size
  replace za := has_call za hb
  replace zb := bthen zb hb; clear hb
  have SL_xx := Lib.hid h5; have SL_xxk := Lib.hid h6; clear h5 h6
  have zac0 := has_cell za 0 rfl; have zac1 := has_cell za 1 rfl
  have zalt := has_lt za
  have ZAH := Lib.hid za; clear za
  have ZB := Lib.hid zb; clear zb
  go_wp2_with fail
  clear zac0 zac1 zalt
  have za := ZAH.out; clear ZAH
  have zb := ZB.out; clear ZB
  generalize hX : (w9.alloc (.cells #[.slice xxA o.length o.length, .slice xxB c.length c.length] 32)) = w10
  have hb : Below w9.heap.size w9 w10 := by rw [← hX]; exact balloc _ _
  have hk : Has w10 w9.heap.size 32 #[.slice xxA o.length o.length, .slice xxB c.length c.length] := by rw [← hX]; exact has_new _ _ _
  clear hX
  have kk := SL.later SL_xs.out (by omega) hb; clear SL_xs; have SL_xs := Lib.hid kk; clear kk
  have kk := SL.later SL_xsk.out (by omega) hb; clear SL_xsk; have SL_xsk := Lib.hid kk; clear kk
  have kk := SL.later SL_xx.out (by omega) hb; clear SL_xx; have SL_xx := Lib.hid kk; clear kk
  have kk := SL.later SL_xxk.out (by omega) hb; clear SL_xxk; have SL_xxk := Lib.hid kk; clear kk
  have kk := OI.call RI_rt.out hb; clear RI_rt; have RI_rt := Lib.hid kk; clear kk
  have kk := OI.call RI_rs.out hb; clear RI_rs; have RI_rs := Lib.hid kk; clear kk
  have hsw10 := hb.size
  replace za := has_call za hb
  replace zb := bthen zb hb; clear hb
  have vx := hk; clear hk; have hlvx := has_lt vx
  have zac0 := has_cell za 0 rfl; have zac1 := has_cell za 1 rfl
  have zalt := has_lt za
  have vxc0 := has_cell vx 0 rfl; have vxc1 := has_cell vx 1 rfl
  have vxlt := has_lt vx
  have ZAH := Lib.hid za; clear za
  have VXH := Lib.hid vx; clear vx
  have ZB := Lib.hid zb; clear zb
  go_wp2_with fail
  clear zac0 zac1 zalt vxc0 vxc1 vxlt
  have za := ZAH.out; clear ZAH
  have vx := VXH.out; clear VXH
  have zb := ZB.out; clear ZB
  refine (toTermsS_any _ w.heap.size AT cT LT mLT zb.size (HLT.out.below zb)).mono ?_
  rintro e w11 ⟨gtA, gtn, rfl, hP, hb⟩
  have kk := SL.later SL_xs.out (by omega) hb; clear SL_xs; have SL_xs := Lib.hid kk; clear kk
  have kk := SL.later SL_xsk.out (by omega) hb; clear SL_xsk; have SL_xsk := Lib.hid kk; clear kk
  have kk := SL.later SL_xx.out (by omega) hb; clear SL_xx; have SL_xx := Lib.hid kk; clear kk
  have kk := SL.later SL_xxk.out (by omega) hb; clear SL_xxk; have SL_xxk := Lib.hid kk; clear kk
  have kk := OI.call RI_rt.out hb; clear RI_rt; have RI_rt := Lib.hid kk; clear kk
  have kk := OI.call RI_rs.out hb; clear RI_rs; have RI_rs := Lib.hid kk; clear kk
  have hsw11 := hb.size
  replace za := has_call za hb
  replace vx := has_call vx hb
  replace zb := bthen zb hb; clear hb
  have RI_gt := Lib.hid (OI.of_or hP); clear hP
  have zac0 := has_cell za 0 rfl; have zac1 := has_cell za 1 rfl
  have zalt := has_lt za
  have vxc0 := has_cell vx 0 rfl; have vxc1 := has_cell vx 1 rfl
  have vxlt := has_lt vx
  have ZAH := Lib.hid za; clear za
  have VXH := Lib.hid vx; clear vx
  have ZB := Lib.hid zb; clear zb
  go_wp2_with fail
  clear zac0 zac1 zalt vxc0 vxc1 vxlt
  have za := ZAH.out; clear ZAH
  have vx := VXH.out; clear VXH
  have zb := ZB.out; clear ZB
  refine (toStayS_any _ w.heap.size AF cF L mL zb.size (HL.out.below zb)).mono ?_
  rintro e w12 ⟨gsA, gsn, rfl, hP, hb⟩
  have kk := SL.later SL_xs.out (by omega) hb; clear SL_xs; have SL_xs := Lib.hid kk; clear kk
  have kk := SL.later SL_xsk.out (by omega) hb; clear SL_xsk; have SL_xsk := Lib.hid kk; clear kk
  have kk := SL.later SL_xx.out (by omega) hb; clear SL_xx; have SL_xx := Lib.hid kk; clear kk
  have kk := SL.later SL_xxk.out (by omega) hb; clear SL_xxk; have SL_xxk := Lib.hid kk; clear kk
  have kk := OI.call RI_rt.out hb; clear RI_rt; have RI_rt := Lib.hid kk; clear kk
  have kk := OI.call RI_rs.out hb; clear RI_rs; have RI_rs := Lib.hid kk; clear kk
  have kk := OI.call RI_gt.out hb; clear RI_gt; have RI_gt := Lib.hid kk; clear kk
  have hsw12 := hb.size
  replace za := has_call za hb
  replace vx := has_call vx hb
  replace zb := bthen zb hb; clear hb
  have RI_gs := Lib.hid (OI.of_or hP); clear hP
  have zac0 := has_cell za 0 rfl; have zac1 := has_cell za 1 rfl
  have zalt := has_lt za
  have vxc0 := has_cell vx 0 rfl; have vxc1 := has_cell vx 1 rfl
  have vxlt := has_lt vx
  have ZAH := Lib.hid za; clear za
  have VXH := Lib.hid vx; clear vx
  have ZB := Lib.hid zb; clear zb
  go_wp2_with fail
  clear zac0 zac1 zalt vxc0 vxc1 vxlt
  have za := ZAH.out; clear ZAH
  have vx := VXH.out; clear VXH
  have zb := ZB.out; clear ZB
  refine (cheapI_any _ w12.heap.size xxA xxB o.length c.length o c gtA gtn LT gsA gsn L ho hc (Nat.le_refl _) (SL.more SL_xx.out (by omega)) (SL.more SL_xxk.out (by omega)) lLT RI_gt.out.tm lL RI_gs.out.st).mono ?_
  rintro e w13 ⟨rfl, hb⟩
  rw [HV.out]
  have kk := SL.later SL_xs.out (by omega) hb; clear SL_xs; have SL_xs := Lib.hid kk; clear kk
  have kk := SL.later SL_xsk.out (by omega) hb; clear SL_xsk; have SL_xsk := Lib.hid kk; clear kk
  have kk := SL.later SL_xx.out (by omega) hb; clear SL_xx; have SL_xx := Lib.hid kk; clear kk
  have kk := SL.later SL_xxk.out (by omega) hb; clear SL_xxk; have SL_xxk := Lib.hid kk; clear kk
  have kk := OI.call RI_rt.out hb; clear RI_rt; have RI_rt := Lib.hid kk; clear kk
  have kk := OI.call RI_rs.out hb; clear RI_rs; have RI_rs := Lib.hid kk; clear kk
  have kk := OI.call RI_gt.out hb; clear RI_gt; have RI_gt := Lib.hid kk; clear kk
  have kk := OI.call RI_gs.out hb; clear RI_gs; have RI_gs := Lib.hid kk; clear kk
  have hsw13 := hb.size
  replace za := has_call za hb
  replace vx := has_call vx hb
  replace zb := bthen zb hb; clear hb
  have zac0 := has_cell za 0 rfl; have zac1 := has_cell za 1 rfl
  have zalt := has_lt za
  have vxc0 := has_cell vx 0 rfl; have vxc1 := has_cell vx 1 rfl
  have vxlt := has_lt vx
  have ZAH := Lib.hid za; clear za
  have VXH := Lib.hid vx; clear vx
  have ZB := Lib.hid zb; clear zb
  try go_wp2_with fail
  have S0 : (fun W : World => (W.cell? ⟨w.heap.size, 0, none⟩ = some (.slice A o.length n) ∧ W.cell? ⟨w.heap.size, 1, none⟩ = some (.slice A' c.length n') ∧ W.cell? ⟨w9.heap.size, 0, none⟩ = some (.slice xxA o.length o.length) ∧ W.cell? ⟨w9.heap.size, 1, none⟩ = some (.slice xxB c.length c.length)) ∧ Below w13.heap.size w13 W) w13.drew := ⟨⟨zac0, zac1, vxc0, vxc1⟩, (Below.refl _ _).drew⟩
  have zc := ZB.out; have zd : Below w.heap.size w w13.drew := zc.drew; have hl1 := zalt; have hl2 := vxlt; have hzz := zc.size
  clear zac0 zac1 zalt vxc0 vxc1 vxlt
  go_region_held3 (fun W : World => (W.cell? ⟨w.heap.size, 0, none⟩ = some (.slice A o.length n) ∧ W.cell? ⟨w.heap.size, 1, none⟩ = some (.slice A' c.length n') ∧ W.cell? ⟨w9.heap.size, 0, none⟩ = some (.slice xxA o.length o.length) ∧ W.cell? ⟨w9.heap.size, 1, none⟩ = some (.slice xxB c.length c.length)) ∧ Below w13.heap.size w13 W) (first | assumption) (first
    | (go_at_call 10; go_must (refine (toWeek_any w13.drew w.heap.size A A' n n' o c lo lc zd.size (HS.out.below zd) (HS'.out.below zd)).mono ?_); rintro e wa ⟨xyA, xyB, rfl, h5, h6, hb6⟩; have T1 := Lib.hid h5; have T2 := Lib.hid h6; clear h5 h6; have hb7 : Below w13.heap.size w13 wa := ((Below.refl w13.heap.size w13).drew).trans hb6; have hz7 := hb7.size; clear hb6; have S6 : (fun W : World => (W.cell? ⟨w.heap.size, 0, none⟩ = some (.slice A o.length n) ∧ W.cell? ⟨w.heap.size, 1, none⟩ = some (.slice A' c.length n') ∧ W.cell? ⟨w9.heap.size, 0, none⟩ = some (.slice xxA o.length o.length) ∧ W.cell? ⟨w9.heap.size, 1, none⟩ = some (.slice xxB c.length c.length)) ∧ Below w13.heap.size w13 W) wa := ⟨⟨(bold hb7 _ _ (by omega)).trans S0.1.1, (bold hb7 _ _ (by omega)).trans S0.1.2.1, (bold hb7 _ _ (by omega)).trans S0.1.2.2.1, (bold hb7 _ _ (by omega)).trans S0.1.2.2.2⟩, hb7⟩)
    | (go_at_call 13; go_must (refine (eqWeek_any wa w9.heap.size wa.heap.size xxA xxB xyA xyB o.length c.length o.length c.length o c ho hc (by omega) (Nat.le_refl _) (SL.later SL_xx.out (by omega) hb7) (SL.later SL_xxk.out (by omega) hb7) T1.out T2.out).mono ?_); rintro e wb ⟨rfl, hb8⟩; have hb9 := bthen hb7 hb8; have S7 : (fun W : World => (W.cell? ⟨w.heap.size, 0, none⟩ = some (.slice A o.length n) ∧ W.cell? ⟨w.heap.size, 1, none⟩ = some (.slice A' c.length n') ∧ W.cell? ⟨w9.heap.size, 0, none⟩ = some (.slice xxA o.length o.length) ∧ W.cell? ⟨w9.heap.size, 1, none⟩ = some (.slice xxB c.length c.length)) ∧ Below w13.heap.size w13 W) wb := ⟨⟨(bold hb9 _ _ (by omega)).trans S0.1.1, (bold hb9 _ _ (by omega)).trans S0.1.2.1, (bold hb9 _ _ (by omega)).trans S0.1.2.2.1, (bold hb9 _ _ (by omega)).trans S0.1.2.2.2⟩, hb9⟩))
  have hb := S7.2
  clear S0 S6 S7 zc zd T1 T2 hb9
  have za := ZAH.out; clear ZAH
  have vx := VXH.out; clear VXH
  have zb := ZB.out; clear ZB
  have kk := SL.later SL_xs.out (by omega) hb; clear SL_xs; have SL_xs := Lib.hid kk; clear kk
  have kk := SL.later SL_xsk.out (by omega) hb; clear SL_xsk; have SL_xsk := Lib.hid kk; clear kk
  have kk := SL.later SL_xx.out (by omega) hb; clear SL_xx; have SL_xx := Lib.hid kk; clear kk
  have kk := SL.later SL_xxk.out (by omega) hb; clear SL_xxk; have SL_xxk := Lib.hid kk; clear kk
  have kk := OI.call RI_rt.out hb; clear RI_rt; have RI_rt := Lib.hid kk; clear kk
  have kk := OI.call RI_rs.out hb; clear RI_rs; have RI_rs := Lib.hid kk; clear kk
  have kk := OI.call RI_gt.out hb; clear RI_gt; have RI_gt := Lib.hid kk; clear kk
  have kk := OI.call RI_gs.out hb; clear RI_gs; have RI_gs := Lib.hid kk; clear kk
  have hswb := hb.size
  replace za := has_call za hb
  replace vx := has_call vx hb
  replace zb := bthen zb hb; clear hb
  have zac0 := has_cell za 0 rfl; have zac1 := has_cell za 1 rfl
  have zalt := has_lt za
  have vxc0 := has_cell vx 0 rfl; have vxc1 := has_cell vx 1 rfl
  have vxlt := has_lt vx
  have ZAH := Lib.hid za; clear za
  have VXH := Lib.hid vx; clear vx
  have ZB := Lib.hid zb; clear zb
  go_wp2_with fail
  clear zac0 zac1 zalt vxc0 vxc1 vxlt
  have za := ZAH.out; clear ZAH
  have vx := VXH.out; clear VXH
  have zb := ZB.out; clear ZB
  refine (toTermsS_any _ w.heap.size AT cT LT mLT zb.size (HLT.out.below zb)).mono ?_
  rintro e w14 ⟨ytA, ytn, rfl, hP, hb⟩
  have kk := SL.later SL_xs.out (by omega) hb; clear SL_xs; have SL_xs := Lib.hid kk; clear kk
  have kk := SL.later SL_xsk.out (by omega) hb; clear SL_xsk; have SL_xsk := Lib.hid kk; clear kk
  have kk := SL.later SL_xx.out (by omega) hb; clear SL_xx; have SL_xx := Lib.hid kk; clear kk
  have kk := SL.later SL_xxk.out (by omega) hb; clear SL_xxk; have SL_xxk := Lib.hid kk; clear kk
  have kk := OI.call RI_rt.out hb; clear RI_rt; have RI_rt := Lib.hid kk; clear kk
  have kk := OI.call RI_rs.out hb; clear RI_rs; have RI_rs := Lib.hid kk; clear kk
  have kk := OI.call RI_gt.out hb; clear RI_gt; have RI_gt := Lib.hid kk; clear kk
  have kk := OI.call RI_gs.out hb; clear RI_gs; have RI_gs := Lib.hid kk; clear kk
  have hsw14 := hb.size
  replace za := has_call za hb
  replace vx := has_call vx hb
  replace zb := bthen zb hb; clear hb
  have RI_yt := Lib.hid (OI.of_or hP); clear hP
  have zac0 := has_cell za 0 rfl; have zac1 := has_cell za 1 rfl
  have zalt := has_lt za
  have vxc0 := has_cell vx 0 rfl; have vxc1 := has_cell vx 1 rfl
  have vxlt := has_lt vx
  have ZAH := Lib.hid za; clear za
  have VXH := Lib.hid vx; clear vx
  have ZB := Lib.hid zb; clear zb
  go_wp2_with fail
  clear zac0 zac1 zalt vxc0 vxc1 vxlt
  have za := ZAH.out; clear ZAH
  have vx := VXH.out; clear VXH
  have zb := ZB.out; clear ZB
  refine (eqTermsS_any _ w14.heap.size w14.heap.size gtA ytA gtn ytn LT lLT (Nat.le_refl _) (Nat.le_refl _) RI_gt.out.tm RI_yt.out.tm).mono ?_
  rintro e w15 ⟨rfl, hb⟩
  have kk := SL.later SL_xs.out (by omega) hb; clear SL_xs; have SL_xs := Lib.hid kk; clear kk
  have kk := SL.later SL_xsk.out (by omega) hb; clear SL_xsk; have SL_xsk := Lib.hid kk; clear kk
  have kk := SL.later SL_xx.out (by omega) hb; clear SL_xx; have SL_xx := Lib.hid kk; clear kk
  have kk := SL.later SL_xxk.out (by omega) hb; clear SL_xxk; have SL_xxk := Lib.hid kk; clear kk
  have kk := OI.call RI_rt.out hb; clear RI_rt; have RI_rt := Lib.hid kk; clear kk
  have kk := OI.call RI_rs.out hb; clear RI_rs; have RI_rs := Lib.hid kk; clear kk
  have kk := OI.call RI_gt.out hb; clear RI_gt; have RI_gt := Lib.hid kk; clear kk
  have kk := OI.call RI_gs.out hb; clear RI_gs; have RI_gs := Lib.hid kk; clear kk
  have kk := OI.call RI_yt.out hb; clear RI_yt; have RI_yt := Lib.hid kk; clear kk
  have hsw15 := hb.size
  replace za := has_call za hb
  replace vx := has_call vx hb
  replace zb := bthen zb hb; clear hb
  have zac0 := has_cell za 0 rfl; have zac1 := has_cell za 1 rfl
  have zalt := has_lt za
  have vxc0 := has_cell vx 0 rfl; have vxc1 := has_cell vx 1 rfl
  have vxlt := has_lt vx
  have ZAH := Lib.hid za; clear za
  have VXH := Lib.hid vx; clear vx
  have ZB := Lib.hid zb; clear zb
  go_wp2_with fail
  clear zac0 zac1 zalt vxc0 vxc1 vxlt
  have za := ZAH.out; clear ZAH
  have vx := VXH.out; clear VXH
  have zb := ZB.out; clear ZB
  refine (toStayS_any _ w.heap.size AF cF L mL zb.size (HL.out.below zb)).mono ?_
  rintro e w16 ⟨ysA, ysn, rfl, hP, hb⟩
  have kk := SL.later SL_xs.out (by omega) hb; clear SL_xs; have SL_xs := Lib.hid kk; clear kk
  have kk := SL.later SL_xsk.out (by omega) hb; clear SL_xsk; have SL_xsk := Lib.hid kk; clear kk
  have kk := SL.later SL_xx.out (by omega) hb; clear SL_xx; have SL_xx := Lib.hid kk; clear kk
  have kk := SL.later SL_xxk.out (by omega) hb; clear SL_xxk; have SL_xxk := Lib.hid kk; clear kk
  have kk := OI.call RI_rt.out hb; clear RI_rt; have RI_rt := Lib.hid kk; clear kk
  have kk := OI.call RI_rs.out hb; clear RI_rs; have RI_rs := Lib.hid kk; clear kk
  have kk := OI.call RI_gt.out hb; clear RI_gt; have RI_gt := Lib.hid kk; clear kk
  have kk := OI.call RI_gs.out hb; clear RI_gs; have RI_gs := Lib.hid kk; clear kk
  have kk := OI.call RI_yt.out hb; clear RI_yt; have RI_yt := Lib.hid kk; clear kk
  have hsw16 := hb.size
  replace za := has_call za hb
  replace vx := has_call vx hb
  replace zb := bthen zb hb; clear hb
  have RI_ys := Lib.hid (OI.of_or hP); clear hP
  have zac0 := has_cell za 0 rfl; have zac1 := has_cell za 1 rfl
  have zalt := has_lt za
  have vxc0 := has_cell vx 0 rfl; have vxc1 := has_cell vx 1 rfl
  have vxlt := has_lt vx
  have ZAH := Lib.hid za; clear za
  have VXH := Lib.hid vx; clear vx
  have ZB := Lib.hid zb; clear zb
  go_wp2_with fail
  clear zac0 zac1 zalt vxc0 vxc1 vxlt
  have za := ZAH.out; clear ZAH
  have vx := VXH.out; clear VXH
  have zb := ZB.out; clear ZB
  refine (eqStayS_any _ w16.heap.size w16.heap.size gsA ysA gsn ysn L lL (Nat.le_refl _) (Nat.le_refl _) RI_gs.out.st RI_ys.out.st).mono ?_
  rintro e w17 ⟨rfl, hb⟩
  have kk := SL.later SL_xs.out (by omega) hb; clear SL_xs; have SL_xs := Lib.hid kk; clear kk
  have kk := SL.later SL_xsk.out (by omega) hb; clear SL_xsk; have SL_xsk := Lib.hid kk; clear kk
  have kk := SL.later SL_xx.out (by omega) hb; clear SL_xx; have SL_xx := Lib.hid kk; clear kk
  have kk := SL.later SL_xxk.out (by omega) hb; clear SL_xxk; have SL_xxk := Lib.hid kk; clear kk
  have kk := OI.call RI_rt.out hb; clear RI_rt; have RI_rt := Lib.hid kk; clear kk
  have kk := OI.call RI_rs.out hb; clear RI_rs; have RI_rs := Lib.hid kk; clear kk
  have kk := OI.call RI_gt.out hb; clear RI_gt; have RI_gt := Lib.hid kk; clear kk
  have kk := OI.call RI_gs.out hb; clear RI_gs; have RI_gs := Lib.hid kk; clear kk
  have kk := OI.call RI_yt.out hb; clear RI_yt; have RI_yt := Lib.hid kk; clear kk
  have kk := OI.call RI_ys.out hb; clear RI_ys; have RI_ys := Lib.hid kk; clear kk
  have hsw17 := hb.size
  replace za := has_call za hb
  replace vx := has_call vx hb
  replace zb := bthen zb hb; clear hb
  have zac0 := has_cell za 0 rfl; have zac1 := has_cell za 1 rfl
  have zalt := has_lt za
  have vxc0 := has_cell vx 0 rfl; have vxc1 := has_cell vx 1 rfl
  have vxlt := has_lt vx
  have ZAH := Lib.hid za; clear za
  have VXH := Lib.hid vx; clear vx
  have ZB := Lib.hid zb; clear zb
  go_wp2_with fail
  clear zac0 zac1 zalt vxc0 vxc1 vxlt
  have za := ZAH.out; clear ZAH
  have vx := VXH.out; clear VXH
  have zb := ZB.out; clear ZB
  go_ret
  exact ⟨rfl, zb⟩
end Go.Proofs.Ythdncneahdiieaa
