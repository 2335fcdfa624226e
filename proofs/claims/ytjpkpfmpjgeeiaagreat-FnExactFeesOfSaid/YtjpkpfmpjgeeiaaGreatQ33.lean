
/- Chapter 9: the model's l09ParcelOk (gen_npt.py). -/
import Derived.Test.YtjpkpfmpjgeeiaaGreatQ31
import Derived.Deep.DeepCutAuto
namespace Go.Proofs.YtjpkpfmpjgeeiaaGreat
open Go.RowKit
set_option linter.unusedVariables false
set_option maxRecDepth 100000
theorem site_in {x : Int} {m : Nat} : inR x 0 ((m : Int) - 1) = (decide (0 ≤ x) && decide (x < (m : Int))) := by
  unfold inR
  rw [Bool.eq_iff_iff]
  simp only [Bool.and_eq_true, decide_eq_true_eq]
  omega
theorem cap_bd {t : Tm} (h : termsB t = true) : 0 ≤ t.price * t.most ∧ t.price * t.most ≤ 2000000 := by
  obtain ⟨_, _, _, _, _, _, hp, hm⟩ := (terms_iff t).1 h
  have h1 : t.price * t.most ≤ 100000 * 20 := Int.mul_le_mul hp.2 hm.2 hm.1 (by omega)
  exact ⟨Int.mul_nonneg hp.1 hm.1, by omega⟩
set_option maxHeartbeats 8000000 in
theorem parS_no (w : World) (B : Nat) (n : Net) (k : Nat) (p : Pc) (hp : n.pc[k]? = some p) (hB : B ≤ w.heap.size) (hV : NetV w B n) (ht : termsB n.tm = true) (hl12 : n.pc.length ≤ 12) (hl3 : n.st.length ≤ 3) (hn : (inR p.size 1 24 && perB p.owner && (decide (0 ≤ p.site) && decide (p.site < (n.st.length : Int))) && inR p.stage 0 5 && (!(p.stage == 2) || parAt n.st p.site == (k : Int) + 1)) = false) :
    Calls Tryz.prog 38 #[.agg #[.int .i64 n.tm.keep, .int .i64 n.tm.free, .int .i64 n.tm.step, .int .i64 n.tm.rate, .int .i64 n.tm.cap, .int .i64 n.tm.longer, .int .i64 n.tm.price, .int .i64 n.tm.most, .int .i64 n.room, .int .i64 n.secret, .int .i64 n.now, .slice n.AS n.st.length n.cS, .slice n.AP n.pc.length n.cP, .slice n.AG n.gr.length n.cG, .slice n.AJ n.jr.length n.cJ], .int .i64 (k : Int)] w fun e w' => e = .returned (.bool (parB n k p)) ∧ Below w.heap.size w w' := by
  have hkl : k < n.pc.length := (List.getElem?_eq_some_iff.1 hp).1
  obtain ⟨b, off, p', hA, hbB, hp', hc0, hc1, hc2, hc3, hc4, hc5, hc6, hc7, hc8, hc9, hc10, hc11, hc12⟩ := hV.pl.at_ hkl
  obtain rfl : p = p' := by rw [hp] at hp'; injection hp'
  have hcb := cap_bd ht
  have hcr := ((terms_iff n.tm).1 ht).2.2.2.2.2.1
  have hmr := ((terms_iff n.tm).1 ht).2.2.2.2.2.2
  have HV := Lib.hid hV; have HP := Lib.hid hp; clear hV hp hp' ht
  have hkk0 : (0 : Int) ≤ (k : Int) := by omega
  have hkk1 : (k : Int) < (n.pc.length : Int) := by omega
  have hk12 : (k : Int) ≤ 12 := by omega
  have hbw : b < w.heap.size := by omega
  go_enter Tryz.func38, Tryz.ntmps38
  rw [hA]
  go_upto_region 2 with fail
  rw [← hA]
  clear hc0 hc1 hc2 hc3 hc4 hc5 hc6 hc7 hc8 hc9 hc10 hc11 hc12 hA
  generalize hW : (w.alloc (.cells #[.int .i64 n.tm.keep, .int .i64 n.tm.free, .int .i64 n.tm.step, .int .i64 n.tm.rate, .int .i64 n.tm.cap, .int .i64 n.tm.longer, .int .i64 n.tm.price, .int .i64 n.tm.most, .int .i64 n.room, .int .i64 n.secret, .int .i64 n.now, .slice n.AS n.st.length n.cS, .slice n.AP n.pc.length n.cP, .slice n.AG n.gr.length n.cG, .slice n.AJ n.jr.length n.cJ] 38)).alloc (.cells #[.int .i64 p.size, .int .i64 p.owner, .int .i64 p.site, .int .i64 p.stage, .int .i64 p.since, .int .i64 p.ext, .int .i64 p.ls, .int .i64 p.ln, .int .i64 p.lt, .int .i64 p.lp, .int .i64 p.lu, .int .i64 p.who, .int .i64 p.fee] 55) = w1
  have b1 : Below w.heap.size w w1 := by rw [← hW]; exact bthen (balloc _ _) (balloc _ _)
  have k0 : Has w1 w.heap.size 38 #[.int .i64 n.tm.keep, .int .i64 n.tm.free, .int .i64 n.tm.step, .int .i64 n.tm.rate, .int .i64 n.tm.cap, .int .i64 n.tm.longer, .int .i64 n.tm.price, .int .i64 n.tm.most, .int .i64 n.room, .int .i64 n.secret, .int .i64 n.now, .slice n.AS n.st.length n.cS, .slice n.AP n.pc.length n.cP, .slice n.AG n.gr.length n.cG, .slice n.AJ n.jr.length n.cJ] := by rw [← hW]; exact has_alloc (has_new _ _ _) _
  have k1 : Has w1 (w.heap.size + 1) 55 #[.int .i64 p.size, .int .i64 p.owner, .int .i64 p.site, .int .i64 p.stage, .int .i64 p.since, .int .i64 p.ext, .int .i64 p.ls, .int .i64 p.ln, .int .i64 p.lt, .int .i64 p.lp, .int .i64 p.lu, .int .i64 p.who, .int .i64 p.fee] := by rw [← hW]; have := has_new (w.alloc (.cells #[.int .i64 n.tm.keep, .int .i64 n.tm.free, .int .i64 n.tm.step, .int .i64 n.tm.rate, .int .i64 n.tm.cap, .int .i64 n.tm.longer, .int .i64 n.tm.price, .int .i64 n.tm.most, .int .i64 n.room, .int .i64 n.secret, .int .i64 n.now, .slice n.AS n.st.length n.cS, .slice n.AP n.pc.length n.cP, .slice n.AG n.gr.length n.cG, .slice n.AJ n.jr.length n.cJ] 38)) 55 #[.int .i64 p.size, .int .i64 p.owner, .int .i64 p.site, .int .i64 p.stage, .int .i64 p.since, .int .i64 p.ext, .int .i64 p.ls, .int .i64 p.ln, .int .i64 p.lt, .int .i64 p.lp, .int .i64 p.lu, .int .i64 p.who, .int .i64 p.fee]; simpa using this
  clear hW
  have hs1 := b1.size
  have BB := Lib.hid b1; have K0 := Lib.hid k0; have K := Lib.hid k1; clear k0 k1 b1
  have q0 := has_cell K.out 0 rfl; have q1 := has_cell K.out 1 rfl; have q2 := has_cell K.out 2 rfl; have q3 := has_cell K.out 3 rfl; have q4 := has_cell K.out 4 rfl; have q5 := has_cell K.out 5 rfl; have q6 := has_cell K.out 6 rfl; have q7 := has_cell K.out 7 rfl; have q8 := has_cell K.out 8 rfl; have q9 := has_cell K.out 9 rfl; have q10 := has_cell K.out 10 rfl; have q11 := has_cell K.out 11 rfl; have q12 := has_cell K.out 12 rfl; have ql := has_lt K.out
  have z0 := has_cell K0.out 0 rfl; have z1 := has_cell K0.out 1 rfl; have z2 := has_cell K0.out 2 rfl; have z3 := has_cell K0.out 3 rfl; have z4 := has_cell K0.out 4 rfl; have z5 := has_cell K0.out 5 rfl; have z6 := has_cell K0.out 6 rfl; have z7 := has_cell K0.out 7 rfl; have z8 := has_cell K0.out 8 rfl; have z9 := has_cell K0.out 9 rfl; have z10 := has_cell K0.out 10 rfl; have z11 := has_cell K0.out 11 rfl; have z12 := has_cell K0.out 12 rfl; have z13 := has_cell K0.out 13 rfl; have z14 := has_cell K0.out 14 rfl; have zl := has_lt K0.out
  have hpb : parB n k p = false := by unfold parB; rw [hn]; rfl
  have HPB := Lib.hid hpb; have HN := Lib.hid hn; clear hpb hn
  go_wp2_with fail
  refine (inR_any _ p.size 1 24).mono ?_
  rintro e w' ⟨rfl, hw⟩
  rw [hw]; clear hw
  cases h1 : inR p.size 1 24
  · go_wp2_with fail
    go_ret
    exact ⟨rbool HPB.out.symm, BB.out⟩
  go_wp2_with fail
  refine (perS_any _ p.owner).mono ?_
  rintro e w' ⟨rfl, hw⟩
  rw [hw]; clear hw
  cases h2 : perB p.owner
  · go_wp2_with fail
    go_ret
    exact ⟨rbool HPB.out.symm, BB.out⟩
  go_wp2_with fail
  refine (inR_any _ p.site 0 ((n.st.length : Int) - 1)).mono ?_
  rintro e w' ⟨rfl, hw⟩
  rw [hw]; clear hw
  rw [site_in]
  cases h3 : (decide (0 ≤ p.site) && decide (p.site < (n.st.length : Int)))
  · go_wp2_with fail
    go_ret
    exact ⟨rbool HPB.out.symm, BB.out⟩
  have hsr : 0 ≤ p.site ∧ p.site < n.st.length := by simpa using h3
  go_wp2_with fail
  refine (inR_any _ p.stage 0 5).mono ?_
  rintro e w' ⟨rfl, hw⟩
  rw [hw]; clear hw
  cases h4 : inR p.stage 0 5
  · go_wp2_with fail
    go_ret
    exact ⟨rbool HPB.out.symm, BB.out⟩
  obtain ⟨j, hj⟩ := Int.eq_ofNat_of_zero_le hsr.1
  have hjl : j < n.st.length := by omega
  obtain ⟨b2, off2, y, hA2, hbB2, hy, sc0, sc1, sc2, sc3, sc4, sc5, sc6, sc7, sc8, sc9, sc10⟩ := ((HV.out.later hB BB.out).si).at_ hjl
  have hpa : parAt n.st p.site = y.par := by rw [hj]; exact parAt_eq hy
  have hbw2 : b2 < w1.heap.size := by omega
  have hjj0 : (0 : Int) ≤ (j : Int) := by omega
  have hjj1 : (j : Int) < (n.st.length : Int) := by omega
  clear sc0 sc1 sc2 sc3 sc4 sc5 sc6 sc7 sc9 sc10 hy
  have hc2 := HN.out
  rw [h1, h2, h3, h4, hpa] at hc2
  simp only [Bool.true_and, Bool.or_eq_false_iff, Bool.not_eq_false'] at hc2
  obtain ⟨e1, e3⟩ := hc2
  have e2 : (y.par != (k : Int) + 1) = true := by simpa using e3
  clear hpa e3
  rw [hj] at q2
  rw [hA2] at z11
  go_wp2_with fail
  go_ret
  exact ⟨rbool HPB.out.symm, BB.out⟩
end Go.Proofs.YtjpkpfmpjgeeiaaGreat
