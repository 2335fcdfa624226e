
/- Chapter 9: FeesOf, the model's and the program's (gen_fes.py). -/
import Derived.Test.YtjpkpfmpjgeeiaaGreatQ46
import Derived.Deep.DeepCutAuto
import Derived.Deep.RegionWith
import Derived.Deep.Cut
namespace Go.Proofs.YtjpkpfmpjgeeiaaGreat
open Go.RowKit
set_option linter.unusedVariables false
set_option maxRecDepth 100000
def feesL (P : List Pc) : Int := (P.map Pc.fee).sum
theorem feesL_succ {P : List Pc} {k : Nat} {p : Pc} (h : P[k]? = some p) : feesL (P.take (k + 1)) = feesL (P.take k) + p.fee := by
  unfold feesL; rw [List.take_add_one, h]; simp
theorem feesL_bd {P : List Pc} (h : ∀ p ∈ P, 0 ≤ p.fee ∧ p.fee ≤ 102000000) : ∀ k, 0 ≤ feesL (P.take k) ∧ feesL (P.take k) ≤ 102000000 * (k : Int)
  | 0 => by simp [feesL]
  | k + 1 => by
    have ih := feesL_bd h k
    by_cases hk : k < P.length
    · have hx := List.getElem?_eq_getElem hk
      have := h _ (List.getElem_mem hk)
      rw [feesL_succ hx]; push_cast; omega
    · rw [List.take_of_length_le (by omega)] at ih ⊢
      push_cast; omega
noncomputable def feeV (x : Net) : Int := if netB x = true then feesL x.pc else 0
theorem feeV_cont {x y : Net} (h : contN y = contN x) : feeV y = feeV x := by
  unfold feeV; rw [netB_cont h]
  simp only [contN, Prod.mk.injEq] at h
  rw [h.2.2.2.1]
theorem fee_bd {x : Net} (h : NetP x) : ∀ p ∈ x.pc, 0 ≤ p.fee ∧ p.fee ≤ 102000000 := fun p hp => by
  obtain ⟨i, hi⟩ := List.getElem?_of_mem hp
  have h1 := h.pars i p hi
  have ht := (frame_facts h.frame).1
  have hc := cap_bd ht
  have hc2 : 0 ≤ x.tm.cap ∧ x.tm.cap ≤ 100000000 := by have := (terms_iff x.tm).1 ht; omega
  unfold parB at h1
  rw [Bool.and_eq_true] at h1
  have h2 := h1.2
  unfold stayB at h2
  split at h2
  · simp only [Bool.and_eq_true, beq_iff_eq] at h2
    omega
  · rw [Bool.and_eq_true] at h2
    have h3 := h2.2
    split at h3
    · rw [Bool.and_eq_true] at h3
      have := inR_iff.1 h3.2
      omega
    · simp only [Bool.and_eq_true, beq_iff_eq] at h3
      omega
theorem net_small {x : Net} (h : NetP x) : x.pc.length ≤ 12 := (frame_facts h.frame).2
set_option maxHeartbeats 4000000 in
theorem feeS9_any (w : World) (B : Nat) (n : Net) (hB : B ≤ w.heap.size) (hV : NetV w B n) :
    Calls Tryz.prog 6 #[.agg #[.int .i64 n.tm.keep, .int .i64 n.tm.free, .int .i64 n.tm.step, .int .i64 n.tm.rate, .int .i64 n.tm.cap, .int .i64 n.tm.longer, .int .i64 n.tm.price, .int .i64 n.tm.most, .int .i64 n.room, .int .i64 n.secret, .int .i64 n.now, .slice n.AS n.st.length n.cS, .slice n.AP n.pc.length n.cP, .slice n.AG n.gr.length n.cG, .slice n.AJ n.jr.length n.cJ]] w fun e w' => e = .returned (.int .i64 (feeV n)) ∧ Below w.heap.size w w' := by
  have hl2 := hV.l2
  unfold maxLen at hl2
  have HV := Lib.hid hV; clear hV
  go_enter Tryz.func6, Tryz.ntmps6
  go_upto_region 1 with fail
  generalize hW : w.alloc (.cells #[.int .i64 n.tm.keep, .int .i64 n.tm.free, .int .i64 n.tm.step, .int .i64 n.tm.rate, .int .i64 n.tm.cap, .int .i64 n.tm.longer, .int .i64 n.tm.price, .int .i64 n.tm.most, .int .i64 n.room, .int .i64 n.secret, .int .i64 n.now, .slice n.AS n.st.length n.cS, .slice n.AP n.pc.length n.cP, .slice n.AG n.gr.length n.cG, .slice n.AJ n.jr.length n.cJ] 38) = w1
  have b1 : Below w.heap.size w w1 := by rw [← hW]; exact balloc _ _
  have k0 : Has w1 w.heap.size 38 #[.int .i64 n.tm.keep, .int .i64 n.tm.free, .int .i64 n.tm.step, .int .i64 n.tm.rate, .int .i64 n.tm.cap, .int .i64 n.tm.longer, .int .i64 n.tm.price, .int .i64 n.tm.most, .int .i64 n.room, .int .i64 n.secret, .int .i64 n.now, .slice n.AS n.st.length n.cS, .slice n.AP n.pc.length n.cP, .slice n.AG n.gr.length n.cG, .slice n.AJ n.jr.length n.cJ] := by rw [← hW]; exact has_new _ _ _
  clear hW
  have hs1 := b1.size
  have BB := Lib.hid b1; have K0 := Lib.hid k0; clear k0 b1
  go_wp2_with fail
  go_loopw [3, 4] (fun sv i wr => ∃ k : Nat, k ≤ n.pc.length ∧ i = .int .i64 (k : Int) ∧ sv = .int .i64 (feesL (n.pc.take k)) ∧ (netB n = false → k = 0) ∧ Below w1.heap.size w1 wr) (fun _ i _ => n.pc.length - (intOf i).toNat)
  case atStart => exact ⟨0, Nat.zero_le _, rfl, rfl, fun _ => rfl, Below.refl _ _⟩
  case round =>
    obtain ⟨k, hk, rfl, rfl, hk0, hb⟩ := hrel
    have HK0 := Lib.hid hk0; clear hk0
    have hsz := hb.size
    have BR := Lib.hid hb; have KR := Lib.hid (has_call K0.out hb); clear hb
    by_cases hlt : k < n.pc.length
    · have hkk0 : (0 : Int) ≤ (k : Int) := by omega
      have hkk1 : (k : Int) < (n.pc.length : Int) := by omega
      have z0 := has_cell (KR.out) 0 rfl; have z1 := has_cell (KR.out) 1 rfl; have z2 := has_cell (KR.out) 2 rfl; have z3 := has_cell (KR.out) 3 rfl; have z4 := has_cell (KR.out) 4 rfl; have z5 := has_cell (KR.out) 5 rfl; have z6 := has_cell (KR.out) 6 rfl; have z7 := has_cell (KR.out) 7 rfl; have z8 := has_cell (KR.out) 8 rfl; have z9 := has_cell (KR.out) 9 rfl; have z10 := has_cell (KR.out) 10 rfl; have z11 := has_cell (KR.out) 11 rfl; have z12 := has_cell (KR.out) 12 rfl; have z13 := has_cell (KR.out) 13 rfl; have z14 := has_cell (KR.out) 14 rfl; have zl := has_lt (KR.out)
      go_wp2_with fail
      clear z0 z1 z2 z3 z4 z5 z6 z7 z8 z9 z10 z11 z12 z13 z14 zl
      refine (netSB_any wr B n (by omega) (HV.out.later hB (bthen BB.out BR.out))).mono ?_
      rintro e w2 ⟨rfl, hb2⟩
      cases hq : netB n
      · have hk9 := HK0.out hq
        have hr9 : feesL (n.pc.take k) = feeV n := by unfold feeV; rw [hq, hk9]; rfl
        have HR := Lib.hid hr9; clear hr9 hq
        generalize feesL (n.pc.take k) = sm at *
        go_wp2_with fail
        go_ret
        exact ⟨ret_int HR.out, bthen BB.out (bthen BR.out hb2)⟩
      have hnp := netB_iff.1 hq
      have hl12 := net_small hnp
      have B2 := Lib.hid (bthen BR.out hb2); have K2 := Lib.hid (has_call KR.out hb2); have hs2 := hb2.size; clear hb2
      obtain ⟨b, off, p, hA, hbB, hp, hc0, hc1, hc2, hc3, hc4, hc5, hc6, hc7, hc8, hc9, hc10, hc11, hc12⟩ := ((HV.out.later hB (bthen BB.out B2.out)).pl).at_ hlt
      have hst := feesL_succ hp
      have h1 := feesL_bd (fee_bd hnp) k
      have hpz := fee_bd hnp p (List.mem_of_getElem? hp)
      have HST := Lib.hid hst; have HQ := Lib.hid hq; clear hst hq hnp hp
      have hbw : b < w2.heap.size := by omega
      generalize feesL (n.pc.take k) = sm at *
      have z12 := has_cell K2.out 12 rfl; have zl := has_lt K2.out
      simp only [List.getElem_toArray, List.getElem_cons_succ, List.getElem_cons_zero] at z12
      rw [hA] at z12
      clear hA
      have hw1 : IntKind.i64.wrap (sm + p.fee) = sm + p.fee := IntWalk.i64_in _ (by omega)
      go_wp2_with fail
      try rw [hw1]
      go_roundw
      case rel => exact ⟨k + 1, by omega, by go_num, by rw [HST.out], (fun h => by rw [HQ.out] at h; cases h), B2.out⟩
      case measure => simp [intOf]; omega
    · have hkl : k = n.pc.length := by omega
      have hr9 : feesL (n.pc.take k) = feeV n := by
        unfold feeV
        cases hq : netB n
        · rw [HK0.out hq]; rfl
        · rw [hkl, List.take_length]; rfl
      have HR := Lib.hid hr9; clear hr9
      subst hkl
      generalize feesL (n.pc.take n.pc.length) = sm at *
      have z12 := has_cell (KR.out) 12 rfl; have zl := has_lt (KR.out)
      have hkk : ¬ (n.pc.length : Int) < (n.pc.length : Int) := by omega
      go_wp2_with fail
      go_ret
      exact ⟨ret_int HR.out, bthen BB.out BR.out⟩
set_option maxHeartbeats 4000000 in
theorem feeI9_any (w : World) (B : Nat) (n : Net) (hB : B ≤ w.heap.size) (hV : NetV w B n) :
    Calls Tryz.prog 8 #[.agg #[.int .i64 n.tm.keep, .int .i64 n.tm.free, .int .i64 n.tm.step, .int .i64 n.tm.rate, .int .i64 n.tm.cap, .int .i64 n.tm.longer, .int .i64 n.tm.price, .int .i64 n.tm.most, .int .i64 n.room, .int .i64 n.secret, .int .i64 n.now, .slice n.AS n.st.length n.cS, .slice n.AP n.pc.length n.cP, .slice n.AG n.gr.length n.cG, .slice n.AJ n.jr.length n.cJ]] w fun e w' => e = .returned (.int .i64 (feeV n)) ∧ Below w.heap.size w w' := by
  have hl2 := hV.l2
  unfold maxLen at hl2
  have HV := Lib.hid hV; clear hV
  go_enter Tryz.func8, Tryz.ntmps8
  go_upto_region 1 with fail
  generalize hW : w.alloc (.cells #[.int .i64 n.tm.keep, .int .i64 n.tm.free, .int .i64 n.tm.step, .int .i64 n.tm.rate, .int .i64 n.tm.cap, .int .i64 n.tm.longer, .int .i64 n.tm.price, .int .i64 n.tm.most, .int .i64 n.room, .int .i64 n.secret, .int .i64 n.now, .slice n.AS n.st.length n.cS, .slice n.AP n.pc.length n.cP, .slice n.AG n.gr.length n.cG, .slice n.AJ n.jr.length n.cJ] 38) = w1
  have b1 : Below w.heap.size w w1 := by rw [← hW]; exact balloc _ _
  have k0 : Has w1 w.heap.size 38 #[.int .i64 n.tm.keep, .int .i64 n.tm.free, .int .i64 n.tm.step, .int .i64 n.tm.rate, .int .i64 n.tm.cap, .int .i64 n.tm.longer, .int .i64 n.tm.price, .int .i64 n.tm.most, .int .i64 n.room, .int .i64 n.secret, .int .i64 n.now, .slice n.AS n.st.length n.cS, .slice n.AP n.pc.length n.cP, .slice n.AG n.gr.length n.cG, .slice n.AJ n.jr.length n.cJ] := by rw [← hW]; exact has_new _ _ _
  clear hW
  have hs1 := b1.size
  have BB := Lib.hid b1; have K0 := Lib.hid k0; clear k0 b1
  have z0 := has_cell (K0.out) 0 rfl; have z1 := has_cell (K0.out) 1 rfl; have z2 := has_cell (K0.out) 2 rfl; have z3 := has_cell (K0.out) 3 rfl; have z4 := has_cell (K0.out) 4 rfl; have z5 := has_cell (K0.out) 5 rfl; have z6 := has_cell (K0.out) 6 rfl; have z7 := has_cell (K0.out) 7 rfl; have z8 := has_cell (K0.out) 8 rfl; have z9 := has_cell (K0.out) 9 rfl; have z10 := has_cell (K0.out) 10 rfl; have z11 := has_cell (K0.out) 11 rfl; have z12 := has_cell (K0.out) 12 rfl; have z13 := has_cell (K0.out) 13 rfl; have z14 := has_cell (K0.out) 14 rfl; have zl := has_lt (K0.out)
  go_wp2_with fail
  clear z0 z1 z2 z3 z4 z5 z6 z7 z8 z9 z10 z11 z12 z13 z14 zl
  refine (netIB_any w1 B n (by omega) (HV.out.later hB BB.out)).mono ?_
  rintro e w2 ⟨rfl, hb2⟩
  have B2 := Lib.hid (bthen BB.out hb2); have K2 := Lib.hid (has_call K0.out hb2); have hs2 := hb2.size; clear hb2
  cases hq : netB n
  · have hr9 : 0 = feeV n := by unfold feeV; rw [hq]; rfl
    have HR := Lib.hid hr9; clear hr9 hq
    go_wp2_with fail
    go_ret
    exact ⟨ret_int HR.out, B2.out⟩
  have hnp := netB_iff.1 hq
  have hl12 := net_small hnp
  have hr9 : feesL n.pc = feeV n := by unfold feeV; rw [hq]; rfl
  have HR := Lib.hid hr9; have HNP := Lib.hid hnp; clear hr9 hq hnp
  have z12 := has_cell (K2.out) 12 rfl; have zl := has_lt (K2.out)
  go_wp2_with fail
  clear z12 zl
  go_loopw [3, 12] (fun sv i wr => ∃ k : Nat, k ≤ n.pc.length ∧ i = .int .i64 (k : Int) ∧ sv = .int .i64 (feesL (n.pc.take k)) ∧ Below w2.heap.size w2 wr) (fun _ i _ => n.pc.length - (intOf i).toNat)
  case atStart => exact ⟨0, Nat.zero_le _, rfl, rfl, Below.refl _ _⟩
  case round =>
    obtain ⟨k, hk, rfl, rfl, hb⟩ := hrel
    have hsz := hb.size
    have BR := Lib.hid hb; clear hb
    by_cases hlt : k < n.pc.length
    · obtain ⟨b, off, p, hA, hbB, hp, hc0, hc1, hc2, hc3, hc4, hc5, hc6, hc7, hc8, hc9, hc10, hc11, hc12⟩ := ((HV.out.later hB (bthen B2.out BR.out)).pl).at_ hlt
      have hst := feesL_succ hp
      have h1 := feesL_bd (fee_bd HNP.out) k
      have hpz := fee_bd HNP.out p (List.mem_of_getElem? hp)
      have HST := Lib.hid hst; clear hst hp
      have hbw : b < wr.heap.size := by omega
      have hkk0 : (0 : Int) ≤ (k : Int) := by omega
      have hkk1 : (k : Int) < (n.pc.length : Int) := by omega
      generalize feesL (n.pc.take k) = sm at *
      rw [hA]
      clear hA
      have hw1 : IntKind.i64.wrap (sm + p.fee) = sm + p.fee := IntWalk.i64_in _ (by omega)
      go_wp2_with fail
      try rw [hw1]
      go_roundw
      case rel => exact ⟨k + 1, by omega, by go_num, by rw [HST.out], bthen BR.out (balloc _ _)⟩
      case measure => simp [intOf]; omega
    · have hkl : k = n.pc.length := by omega
      subst hkl
      rw [List.take_length]
      have hkk : ¬ (n.pc.length : Int) < (n.pc.length : Int) := by omega
      generalize feesL n.pc = sm at *
      go_wp2_with fail
      go_ret
      exact ⟨ret_int HR.out, bthen B2.out BR.out⟩
end Go.Proofs.YtjpkpfmpjgeeiaaGreat
namespace Go.Proofs.YtjpkpfmpjgeeiaaGreat
open Go.RowKit
set_option linter.unusedVariables false
set_option maxRecDepth 100000
set_option maxHeartbeats 8000000 in
theorem NtLf_walk (x : Net) (w : World) (hV : NetV w w.heap.size x) :
    Calls Tryz.prog 3 #[.agg #[.int .i64 x.tm.keep, .int .i64 x.tm.free, .int .i64 x.tm.step, .int .i64 x.tm.rate, .int .i64 x.tm.cap, .int .i64 x.tm.longer, .int .i64 x.tm.price, .int .i64 x.tm.most, .int .i64 x.room, .int .i64 x.secret, .int .i64 x.now, .slice x.AS x.st.length x.cS, .slice x.AP x.pc.length x.cP, .slice x.AG x.gr.length x.cG, .slice x.AJ x.jr.length x.cJ]] w fun e w' => e = .returned (.bool true) ∧ Below w.heap.size w w' := by
  have HV := Lib.hid hV; clear hV
  go_enter Tryz.func3, Tryz.ntmps3
  go_wp2_with fail
  generalize hX : w.alloc (.cells #[.int .i64 x.tm.keep, .int .i64 x.tm.free, .int .i64 x.tm.step, .int .i64 x.tm.rate, .int .i64 x.tm.cap, .int .i64 x.tm.longer, .int .i64 x.tm.price, .int .i64 x.tm.most, .int .i64 x.room, .int .i64 x.secret, .int .i64 x.now, .slice x.AS x.st.length x.cS, .slice x.AP x.pc.length x.cP, .slice x.AG x.gr.length x.cG, .slice x.AJ x.jr.length x.cJ] 29) = w1
  have b1 : Below w.heap.size w w1 := by rw [← hX]; exact balloc _ _
  have k1 : Has w1 w.heap.size 29 #[.int .i64 x.tm.keep, .int .i64 x.tm.free, .int .i64 x.tm.step, .int .i64 x.tm.rate, .int .i64 x.tm.cap, .int .i64 x.tm.longer, .int .i64 x.tm.price, .int .i64 x.tm.most, .int .i64 x.room, .int .i64 x.secret, .int .i64 x.now, .slice x.AS x.st.length x.cS, .slice x.AP x.pc.length x.cP, .slice x.AG x.gr.length x.cG, .slice x.AJ x.jr.length x.cJ] := by rw [← hX]; exact has_new _ _ _
  clear hX
  have hs1 := b1.size
  have K := Lib.hid k1; have BB := Lib.hid b1; clear k1 b1
  refine (szNetwork_any w1 w.heap.size x (by omega) (HV.out.later (Nat.le_refl _) BB.out)).mono ?_
  rintro e w2 ⟨r, rfl, hr, hb⟩
  have kk := has_call K.out hb; clear K; have K := Lib.hid kk; clear kk
  have kk := bthen BB.out hb; clear BB; have BB := Lib.hid kk; clear kk
  have hsw2 := hb.size; clear hb
  rcases hr with rfl | ⟨hr0, hsz⟩
  · go_wp2_with fail
    go_ret
    exact ⟨rfl, BB.out⟩
  have hrn : ¬ r < 0 := by omega
  have HSZ := Lib.hid hsz; clear hsz hr0
  have kc0 := has_cell K.out 0 rfl; have kc1 := has_cell K.out 1 rfl; have kc2 := has_cell K.out 2 rfl; have kc3 := has_cell K.out 3 rfl; have kc4 := has_cell K.out 4 rfl; have kc5 := has_cell K.out 5 rfl; have kc6 := has_cell K.out 6 rfl; have kc7 := has_cell K.out 7 rfl; have kc8 := has_cell K.out 8 rfl; have kc9 := has_cell K.out 9 rfl; have kc10 := has_cell K.out 10 rfl; have kc11 := has_cell K.out 11 rfl; have kc12 := has_cell K.out 12 rfl; have kc13 := has_cell K.out 13 rfl; have kc14 := has_cell K.out 14 rfl; have klt := has_lt K.out
  go_wp2_with fail
  clear kc0 kc1 kc2 kc3 kc4 kc5 kc6 kc7 kc8 kc9 kc10 kc11 kc12 kc13 kc14 klt
  clear hrn
  refine (toNetwork_any w2 w.heap.size x HSZ.out (by omega) (HV.out.later (Nat.le_refl _) BB.out)).mono ?_
  rintro e w3 ⟨y1, rfl, hc, ha, hb⟩
  have Cy1 := Lib.hid hc; have Zy1 : Hid (szNet y1 ≤ 1048576) := Lib.hid (by rw [szNet_cont hc]; exact HSZ.out); have Ay1 := Lib.hid ha; have Vy1 := Lib.hid (feeV_cont hc); clear hc ha
  have kk := has_call K.out hb; clear K; have K := Lib.hid kk; clear kk
  have kk := bthen BB.out hb; clear BB; have BB := Lib.hid kk; clear kk
  have hsw3 := hb.size; clear hb
  go_wp2_with fail
  have hct := feeS9_any w3 w3.heap.size y1 (Nat.le_refl _) (Ay1.out.v Zy1.out)
  rw [Vy1.out] at hct
  refine hct.mono ?_
  clear hct
  rintro e w4 ⟨rfl, hb⟩
  have kk := has_call K.out hb; clear K; have K := Lib.hid kk; clear kk
  have kk := Ay1.out.call hb; clear Ay1; have Ay1 := Lib.hid kk; clear kk
  have kk := bthen BB.out hb; clear BB; have BB := Lib.hid kk; clear kk
  have hsw4 := hb.size; clear hb
  have kc0 := has_cell K.out 0 rfl; have kc1 := has_cell K.out 1 rfl; have kc2 := has_cell K.out 2 rfl; have kc3 := has_cell K.out 3 rfl; have kc4 := has_cell K.out 4 rfl; have kc5 := has_cell K.out 5 rfl; have kc6 := has_cell K.out 6 rfl; have kc7 := has_cell K.out 7 rfl; have kc8 := has_cell K.out 8 rfl; have kc9 := has_cell K.out 9 rfl; have kc10 := has_cell K.out 10 rfl; have kc11 := has_cell K.out 11 rfl; have kc12 := has_cell K.out 12 rfl; have kc13 := has_cell K.out 13 rfl; have kc14 := has_cell K.out 14 rfl; have klt := has_lt K.out
  go_wp2_with fail
  clear kc0 kc1 kc2 kc3 kc4 kc5 kc6 kc7 kc8 kc9 kc10 kc11 kc12 kc13 kc14 klt
  refine (toNetwork_any w4 w.heap.size x HSZ.out (by omega) (HV.out.later (Nat.le_refl _) BB.out)).mono ?_
  rintro e w5 ⟨y2, rfl, hc, ha, hb⟩
  have Cy2 := Lib.hid hc; have Zy2 : Hid (szNet y2 ≤ 1048576) := Lib.hid (by rw [szNet_cont hc]; exact HSZ.out); have Ay2 := Lib.hid ha; have Vy2 := Lib.hid (feeV_cont hc); clear hc ha
  have kk := has_call K.out hb; clear K; have K := Lib.hid kk; clear kk
  have kk := Ay1.out.call hb; clear Ay1; have Ay1 := Lib.hid kk; clear kk
  have kk := bthen BB.out hb; clear BB; have BB := Lib.hid kk; clear kk
  have hsw5 := hb.size; clear hb
  go_wp2_with fail
  generalize hX : w5.alloc (.cells #[.int .i64 y2.tm.keep, .int .i64 y2.tm.free, .int .i64 y2.tm.step, .int .i64 y2.tm.rate, .int .i64 y2.tm.cap, .int .i64 y2.tm.longer, .int .i64 y2.tm.price, .int .i64 y2.tm.most, .int .i64 y2.room, .int .i64 y2.secret, .int .i64 y2.now, .slice y2.AS y2.st.length y2.cS, .slice y2.AP y2.pc.length y2.cP, .slice y2.AG y2.gr.length y2.cG, .slice y2.AJ y2.jr.length y2.cJ] 38) = w6
  have hb : Below w5.heap.size w5 w6 := by rw [← hX]; exact balloc _ _
  have hk : Has w6 w5.heap.size 38 #[.int .i64 y2.tm.keep, .int .i64 y2.tm.free, .int .i64 y2.tm.step, .int .i64 y2.tm.rate, .int .i64 y2.tm.cap, .int .i64 y2.tm.longer, .int .i64 y2.tm.price, .int .i64 y2.tm.most, .int .i64 y2.room, .int .i64 y2.secret, .int .i64 y2.now, .slice y2.AS y2.st.length y2.cS, .slice y2.AP y2.pc.length y2.cP, .slice y2.AG y2.gr.length y2.cG, .slice y2.AJ y2.jr.length y2.cJ] := by rw [← hX]; exact has_new _ _ _
  clear hX
  have kk := has_call K.out hb; clear K; have K := Lib.hid kk; clear kk
  have kk := Ay1.out.call hb; clear Ay1; have Ay1 := Lib.hid kk; clear kk
  have kk := Ay2.out.call hb; clear Ay2; have Ay2 := Lib.hid kk; clear kk
  have kk := bthen BB.out hb; clear BB; have BB := Lib.hid kk; clear kk
  have hsw6 := hb.size; clear hb
  have X := Lib.hid hk; clear hk
  have hct := feeI9_any w6 w6.heap.size y2 (Nat.le_refl _) (Ay2.out.v Zy2.out)
  rw [Vy2.out] at hct
  refine hct.mono ?_
  clear hct
  rintro e w7 ⟨rfl, hb⟩
  have kk := has_call K.out hb; clear K; have K := Lib.hid kk; clear kk
  have kk := has_call X.out hb; clear X; have X := Lib.hid kk; clear kk
  have kk := Ay1.out.call hb; clear Ay1; have Ay1 := Lib.hid kk; clear kk
  have kk := Ay2.out.call hb; clear Ay2; have Ay2 := Lib.hid kk; clear kk
  have kk := bthen BB.out hb; clear BB; have BB := Lib.hid kk; clear kk
  have hsw7 := hb.size; clear hb
  obtain ⟨va, hva⟩ : ∃ v, feeV x = v := ⟨_, rfl⟩
  rw [hva]
  clear hva
  have nv : (va != va) = false := by simp
  have kc0 := has_cell K.out 0 rfl; have kc1 := has_cell K.out 1 rfl; have kc2 := has_cell K.out 2 rfl; have kc3 := has_cell K.out 3 rfl; have kc4 := has_cell K.out 4 rfl; have kc5 := has_cell K.out 5 rfl; have kc6 := has_cell K.out 6 rfl; have kc7 := has_cell K.out 7 rfl; have kc8 := has_cell K.out 8 rfl; have kc9 := has_cell K.out 9 rfl; have kc10 := has_cell K.out 10 rfl; have kc11 := has_cell K.out 11 rfl; have kc12 := has_cell K.out 12 rfl; have kc13 := has_cell K.out 13 rfl; have kc14 := has_cell K.out 14 rfl; have klt := has_lt K.out
  have xc0 := has_cell X.out 0 rfl; have xc1 := has_cell X.out 1 rfl; have xc2 := has_cell X.out 2 rfl; have xc3 := has_cell X.out 3 rfl; have xc4 := has_cell X.out 4 rfl; have xc5 := has_cell X.out 5 rfl; have xc6 := has_cell X.out 6 rfl; have xc7 := has_cell X.out 7 rfl; have xc8 := has_cell X.out 8 rfl; have xc9 := has_cell X.out 9 rfl; have xc10 := has_cell X.out 10 rfl; have xc11 := has_cell X.out 11 rfl; have xc12 := has_cell X.out 12 rfl; have xc13 := has_cell X.out 13 rfl; have xc14 := has_cell X.out 14 rfl; have xlt := has_lt X.out
  go_upto_region 10 with fail
  clear kc0 kc1 kc2 kc3 kc4 kc5 kc6 kc7 kc8 kc9 kc10 kc11 kc12 kc13 kc14 klt
  clear xc0 xc1 xc2 xc3 xc4 xc5 xc6 xc7 xc8 xc9 xc10 xc11 xc12 xc13 xc14 xlt
  have bd : Below w7.heap.size w7 w7.drew := (Below.refl _ _).drew
  have KD := has_call K.out bd; have XD := has_call X.out bd; have AD := Ay2.out.call bd; have BD := BB.out.trans (bd.mono BB.out.size)
  have kc0 := has_cell KD 0 rfl; have xc0 := has_cell XD 0 rfl; have kc1 := has_cell KD 1 rfl; have xc1 := has_cell XD 1 rfl; have kc2 := has_cell KD 2 rfl; have xc2 := has_cell XD 2 rfl; have kc3 := has_cell KD 3 rfl; have xc3 := has_cell XD 3 rfl; have kc4 := has_cell KD 4 rfl; have xc4 := has_cell XD 4 rfl; have kc5 := has_cell KD 5 rfl; have xc5 := has_cell XD 5 rfl; have kc6 := has_cell KD 6 rfl; have xc6 := has_cell XD 6 rfl; have kc7 := has_cell KD 7 rfl; have xc7 := has_cell XD 7 rfl; have kc8 := has_cell KD 8 rfl; have xc8 := has_cell XD 8 rfl; have kc9 := has_cell KD 9 rfl; have xc9 := has_cell XD 9 rfl; have kc10 := has_cell KD 10 rfl; have xc10 := has_cell XD 10 rfl; have kc11 := has_cell KD 11 rfl; have xc11 := has_cell XD 11 rfl; have kc12 := has_cell KD 12 rfl; have xc12 := has_cell XD 12 rfl; have kc13 := has_cell KD 13 rfl; have xc13 := has_cell XD 13 rfl; have kc14 := has_cell KD 14 rfl; have xc14 := has_cell XD 14 rfl
  have hT := toNetwork_any w7.drew w.heap.size x HSZ.out (by show w.heap.size ≤ w7.heap.size; omega) (HV.out.later (Nat.le_refl _) BD)
  have HT := Lib.hid hT; have XH := Lib.hid XD; have AH := Lib.hid AD; have BH := Lib.hid BD; have bsz : w7.drew.heap.size = w7.heap.size := rfl; clear hT KD XD AD BD bd
  go_region_with (first | (go_at_call 7; refine (HT.out).mono ?_; rintro e w8 ⟨y3, rfl, hc, ha, hb⟩; have C3 := Lib.hid hc; have Z3 : Hid (szNet y3 ≤ 1048576) := Lib.hid (by rw [szNet_cont hc]; exact HSZ.out); have hx8 := has_call XH.out hb; have xd0 := has_cell hx8 0 rfl; have xd1 := has_cell hx8 1 rfl; have xd2 := has_cell hx8 2 rfl; have xd3 := has_cell hx8 3 rfl; have xd4 := has_cell hx8 4 rfl; have xd5 := has_cell hx8 5 rfl; have xd6 := has_cell hx8 6 rfl; have xd7 := has_cell hx8 7 rfl; have xd8 := has_cell hx8 8 rfl; have xd9 := has_cell hx8 9 rfl; have xd10 := has_cell hx8 10 rfl; have xd11 := has_cell hx8 11 rfl; have xd12 := has_cell hx8 12 rfl; have xd13 := has_cell hx8 13 rfl; have xd14 := has_cell hx8 14 rfl; have A28 := Lib.hid (AH.out.call hb); have A38 := Lib.hid ha; have B8 := Lib.hid (BH.out.trans (hb.mono BH.out.size)); clear hc ha hb hx8) | (go_at_call 9; refine (eqNetwork_any w8 w8.heap.size w8.heap.size y2 y3 (C3.out.trans Cy2.out.symm) Zy2.out (Nat.le_refl _) (Nat.le_refl _) (A28.out.v Zy2.out) (A38.out.v Z3.out)).mono ?_; rintro e w9 ⟨rfl, hb⟩; have B9 := Lib.hid (bthen B8.out hb); clear hb))
  all_goals (go_wp2_with fail)
  all_goals go_ret
  all_goals exact ⟨rfl, B9.out⟩
end Go.Proofs.YtjpkpfmpjgeeiaaGreat
