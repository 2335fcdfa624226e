
/- Chapter 9: the model's l09Unplaced, l09SiteOk, l09ParcelOk, l09Load (gen_nps.py). -/
import Derived.Test.YtjpkpfmpjgeeiaaGreatQ30
import Derived.Test.YtjpkpfmpjgeeiaaGreatQ11
import Derived.Test.YtjpkpfmpjgeeiaaGreatQ27
import Derived.Deep.RegionHeld3
import Derived.Deep.Cut
namespace Go.Proofs.YtjpkpfmpjgeeiaaGreat
open Go.RowKit
set_option linter.unusedVariables false
set_option maxRecDepth 100000
set_option maxHeartbeats 2000000 in
theorem unplS_any (w : World) (B : Nat) (n : Net) (k : Nat) (p : Pc) (hp : n.pc[k]? = some p) (hB : B ≤ w.heap.size) (hV : NetV w B n) (hs : p.stage = 2 → 0 ≤ p.site ∧ p.site < n.st.length) :
    Calls Tryz.prog 66 #[.agg #[.int .i64 n.tm.keep, .int .i64 n.tm.free, .int .i64 n.tm.step, .int .i64 n.tm.rate, .int .i64 n.tm.cap, .int .i64 n.tm.longer, .int .i64 n.tm.price, .int .i64 n.tm.most, .int .i64 n.room, .int .i64 n.secret, .int .i64 n.now, .slice n.AS n.st.length n.cS, .slice n.AP n.pc.length n.cP, .slice n.AG n.gr.length n.cG, .slice n.AJ n.jr.length n.cJ], .int .i64 (k : Int)] w fun e w' => e = .returned (.bool (unplB n.st p)) ∧ Below w.heap.size w w' := by
  have hl1 := hV.l1; have hl2 := hV.l2
  unfold maxLen at hl1 hl2
  have hkl : k < n.pc.length := (List.getElem?_eq_some_iff.1 hp).1
  obtain ⟨b, off, p', hA, hbB, hp', hc0, hc1, hc2, hc3, hc4, hc5, hc6, hc7, hc8, hc9, hc10, hc11, hc12⟩ := hV.pl.at_ hkl
  obtain rfl : p = p' := by rw [hp] at hp'; injection hp'
  have HV := Lib.hid hV; clear hV hp hp'
  have hkk0 : (0 : Int) ≤ (k : Int) := by omega
  have hkk1 : (k : Int) < (n.pc.length : Int) := by omega
  have hbw : b < w.heap.size := by omega
  have hb0 : ∀ o1 o2, Below w.heap.size w ((w.alloc o1).alloc o2) := fun o1 o2 => bthen (balloc w o1) (balloc _ o2)
  have HB0 := Lib.hid hb0; clear hb0
  by_cases h2 : p.stage = 2
  · obtain ⟨s0, s1⟩ := hs h2
    obtain ⟨j, hj⟩ := Int.eq_ofNat_of_zero_le s0
    have hjl : j < n.st.length := by omega
    obtain ⟨b2, off2, y, hA2, hbB2, hy, sc0, sc1, sc2, sc3, sc4, sc5, sc6, sc7, sc8, sc9, sc10⟩ := HV.out.si.at_ hjl
    have hu : unplB n.st p = (y.dk == 1) := by unfold unplB; rw [h2, hj, kindAt_eq hy]; simp
    have HU := Lib.hid hu; clear hu hy hs sc0 sc1 sc2 sc4 sc5 sc6 sc7 sc8 sc9 sc10
    have hbw2 : b2 < w.heap.size := by omega
    have e0 : (p.stage == 0) = false := by rw [h2]; rfl
    have e1 : (p.stage == 1) = false := by rw [h2]; rfl
    have e2 : (p.stage == 2) = true := by rw [h2]; rfl
    rw [hj] at hc2 s1
    clear h2 s0
    have hjj0 : (0 : Int) ≤ (j : Int) := by omega
    go_enter Tryz.func66, Tryz.ntmps66
    rw [hA, hA2]
    go_wp2_with fail
    go_ret
    exact ⟨rbool HU.out.symm, HB0.out _ _⟩
  · have e2 : (p.stage == 2) = false := by simpa using h2
    by_cases h0 : p.stage = 0
    · have e0 : (p.stage == 0) = true := by simpa using h0
      have hu : unplB n.st p = true := by simp [unplB, h0]
      have HU := Lib.hid hu; clear hu hs h2 h0
      go_enter Tryz.func66, Tryz.ntmps66
      rw [hA]
      go_wp2_with fail
      go_ret
      exact ⟨rbool HU.out.symm, HB0.out _ _⟩
    · have e0 : (p.stage == 0) = false := by simpa using h0
      by_cases h1 : p.stage = 1
      · have e1 : (p.stage == 1) = true := by simpa using h1
        have hu : unplB n.st p = true := by simp [unplB, h1]
        have HU := Lib.hid hu; clear hu hs h2 h0 h1
        go_enter Tryz.func66, Tryz.ntmps66
        rw [hA]
        go_wp2_with fail
        go_ret
        exact ⟨rbool HU.out.symm, HB0.out _ _⟩
      · have e1 : (p.stage == 1) = false := by simpa using h1
        have hu : unplB n.st p = false := by simp [unplB, h0, h1, h2]
        have HU := Lib.hid hu; clear hu hs h2 h0 h1
        go_enter Tryz.func66, Tryz.ntmps66
        rw [hA]
        go_wp2_with fail
        go_ret
        exact ⟨rbool HU.out.symm, HB0.out _ _⟩
set_option maxHeartbeats 4000000 in
theorem siteS_any (w : World) (B : Nat) (n : Net) (k : Nat) (y : Sit) (hy : n.st[k]? = some y) (hB : B ≤ w.heap.size) (hV : NetV w B n) :
    Calls Tryz.prog 37 #[.agg #[.int .i64 n.tm.keep, .int .i64 n.tm.free, .int .i64 n.tm.step, .int .i64 n.tm.rate, .int .i64 n.tm.cap, .int .i64 n.tm.longer, .int .i64 n.tm.price, .int .i64 n.tm.most, .int .i64 n.room, .int .i64 n.secret, .int .i64 n.now, .slice n.AS n.st.length n.cS, .slice n.AP n.pc.length n.cP, .slice n.AG n.gr.length n.cG, .slice n.AJ n.jr.length n.cJ], .int .i64 (k : Int)] w (Tells (SiteP n.pc k y) w) := by
  have hl1 := hV.l1; have hl2 := hV.l2
  unfold maxLen at hl1 hl2
  have hkl : k < n.st.length := (List.getElem?_eq_some_iff.1 hy).1
  obtain ⟨b, off, y', hA, hbB, hy', hc0, hc1, hc2, hc3, hc4, hc5, hc6, hc7, hc8, hc9, hc10⟩ := hV.si.at_ hkl
  obtain rfl : y = y' := by rw [hy] at hy'; injection hy'
  have HV := Lib.hid hV; have HVY := Lib.hid (hV.sv y (List.mem_of_getElem? hy)); clear hV hy hy'
  have hkk0 : (0 : Int) ≤ (k : Int) := by omega
  have hkk1 : (k : Int) < (n.st.length : Int) := by omega
  have hbw : b < w.heap.size := by omega
  go_enter Tryz.func37, Tryz.ntmps37
  rw [hA]
  go_upto_region 2 with fail
  clear hc0 hc1 hc2 hc3 hc4 hc5 hc6 hc7 hc8 hc9 hc10
  generalize hW : (w.alloc (.cells #[.int .i64 n.tm.keep, .int .i64 n.tm.free, .int .i64 n.tm.step, .int .i64 n.tm.rate, .int .i64 n.tm.cap, .int .i64 n.tm.longer, .int .i64 n.tm.price, .int .i64 n.tm.most, .int .i64 n.room, .int .i64 n.secret, .int .i64 n.now, .slice (some ⟨b, off, none⟩) n.st.length n.cS, .slice n.AP n.pc.length n.cP, .slice n.AG n.gr.length n.cG, .slice n.AJ n.jr.length n.cJ] 38)).alloc (.cells #[.slice y.A1 y.o.length y.c1, .slice y.A2 y.q.length y.c2, .slice y.AB y.bk.length y.cB, .int .i64 y.dk, .int .i64 y.ds, .bool y.dl, .bool y.dp, .bool y.df, .int .i64 y.par, .int .i64 y.who, .slice y.AJ y.jr.length y.cJ] 88) = w1
  have b1 : Below w.heap.size w w1 := by rw [← hW]; exact bthen (balloc _ _) (balloc _ _)
  have k0 : Has w1 w.heap.size 38 #[.int .i64 n.tm.keep, .int .i64 n.tm.free, .int .i64 n.tm.step, .int .i64 n.tm.rate, .int .i64 n.tm.cap, .int .i64 n.tm.longer, .int .i64 n.tm.price, .int .i64 n.tm.most, .int .i64 n.room, .int .i64 n.secret, .int .i64 n.now, .slice (some ⟨b, off, none⟩) n.st.length n.cS, .slice n.AP n.pc.length n.cP, .slice n.AG n.gr.length n.cG, .slice n.AJ n.jr.length n.cJ] := by rw [← hW]; exact has_alloc (has_new _ _ _) _
  have k1 : Has w1 (w.heap.size + 1) 88 #[.slice y.A1 y.o.length y.c1, .slice y.A2 y.q.length y.c2, .slice y.AB y.bk.length y.cB, .int .i64 y.dk, .int .i64 y.ds, .bool y.dl, .bool y.dp, .bool y.df, .int .i64 y.par, .int .i64 y.who, .slice y.AJ y.jr.length y.cJ] := by rw [← hW]; have := has_new (w.alloc (.cells #[.int .i64 n.tm.keep, .int .i64 n.tm.free, .int .i64 n.tm.step, .int .i64 n.tm.rate, .int .i64 n.tm.cap, .int .i64 n.tm.longer, .int .i64 n.tm.price, .int .i64 n.tm.most, .int .i64 n.room, .int .i64 n.secret, .int .i64 n.now, .slice (some ⟨b, off, none⟩) n.st.length n.cS, .slice n.AP n.pc.length n.cP, .slice n.AG n.gr.length n.cG, .slice n.AJ n.jr.length n.cJ] 38)) 88 #[.slice y.A1 y.o.length y.c1, .slice y.A2 y.q.length y.c2, .slice y.AB y.bk.length y.cB, .int .i64 y.dk, .int .i64 y.ds, .bool y.dl, .bool y.dp, .bool y.df, .int .i64 y.par, .int .i64 y.who, .slice y.AJ y.jr.length y.cJ]; simpa using this
  clear hW
  have hs1 := b1.size
  have BB := Lib.hid b1; have K0 := Lib.hid k0; have K := Lib.hid k1; clear k0 k1 b1
  have q0 := has_cell K.out 0 rfl; have q1 := has_cell K.out 1 rfl; have ql := has_lt K.out
  go_wp2_with fail
  clear q0 q1 ql
  refine (weekS_any w1 B y.A1 y.A2 y.c1 y.c2 y.o y.q HVY.out.l1 HVY.out.l2 (by omega) (HVY.out.later hB BB.out).so (HVY.out.later hB BB.out).sq).mono ?_
  rintro e w2 ⟨rfl, hb⟩
  have kk := bthen BB.out hb; clear BB; have BB := Lib.hid kk; clear kk
  have kk := has_call K.out hb; clear K; have K := Lib.hid kk; clear kk
  have kk := has_call K0.out hb; clear K0; have K0 := Lib.hid kk; clear kk
  have hsw2 := hb.size; clear hb
  have q2 := has_cell K.out 2 rfl; have ql := has_lt K.out
  cases t1 : weekB y.o y.q
  · go_wp2_with fail
    go_ret
    exact tells_no (fun h => by rw [h.1] at t1; cases t1) BB.out
  go_wp2_with fail
  clear q2 ql
  refine (bankS_any w2 B y.AB y.bk.length y.cB y.bk rfl HVY.out.l3 (by omega) (HVY.out.later hB BB.out).kb (HVY.out.later hB BB.out).cv).mono ?_
  rintro e w3 ⟨r2, rfl, t2, hb⟩
  have kk := bthen BB.out hb; clear BB; have BB := Lib.hid kk; clear kk
  have kk := has_call K.out hb; clear K; have K := Lib.hid kk; clear kk
  have kk := has_call K0.out hb; clear K0; have K0 := Lib.hid kk; clear kk
  have hsw3 := hb.size; clear hb
  have q3 := has_cell K.out 3 rfl; have q4 := has_cell K.out 4 rfl; have q5 := has_cell K.out 5 rfl; have q6 := has_cell K.out 6 rfl; have q7 := has_cell K.out 7 rfl; have ql := has_lt K.out
  have T2 := Lib.hid t2; clear t2
  cases r2
  · go_wp2_with fail
    go_ret
    exact tells_no (fun h => by have := T2.out.2 h.2.1; cases this) BB.out
  go_wp2_with fail
  clear q3 q4 q5 q6 q7 ql
  refine (doorS_any w3 y.dk y.ds y.dl y.dp y.df).mono ?_
  rintro e w4 ⟨rfl, hb⟩
  have kk := bthen BB.out hb; clear BB; have BB := Lib.hid kk; clear kk
  have kk := has_call K.out hb; clear K; have K := Lib.hid kk; clear kk
  have kk := has_call K0.out hb; clear K0; have K0 := Lib.hid kk; clear kk
  have hsw4 := hb.size; clear hb
  have q10 := has_cell K.out 10 rfl; have ql := has_lt K.out
  cases t3 : doorB y.dk y.ds y.dl y.dp y.df
  · go_wp2_with fail
    go_ret
    exact tells_no (fun h => by rw [h.2.2.1] at t3; cases t3) BB.out
  go_wp2_with fail
  clear q10 ql
  refine (jrnS_any w4 B y.AJ y.cJ y.jr HVY.out.l4 (by omega) (HVY.out.later hB BB.out).ej).mono ?_
  rintro e w5 ⟨rfl, hb⟩
  have kk := bthen BB.out hb; clear BB; have BB := Lib.hid kk; clear kk
  have kk := has_call K.out hb; clear K; have K := Lib.hid kk; clear kk
  have kk := has_call K0.out hb; clear K0; have K0 := Lib.hid kk; clear kk
  have hsw5 := hb.size; clear hb
  have q3 := has_cell K.out 3 rfl; have q4 := has_cell K.out 4 rfl; have q5 := has_cell K.out 5 rfl; have q6 := has_cell K.out 6 rfl; have q7 := has_cell K.out 7 rfl; have q8 := has_cell K.out 8 rfl; have q9 := has_cell K.out 9 rfl; have ql := has_lt K.out
  cases t4 : jrnB y.jr
  · go_wp2_with fail
    go_ret
    exact tells_no (fun h => by rw [h.2.2.2.1] at t4; cases t4) BB.out
  have T2y : Hid (BankP y.bk) := Lib.hid (by have h9 := T2.out; simpa using h9)
  by_cases h0 : y.par = 0
  · have e0 : (y.par == 0) = true := by simpa using h0
    have hwb : workB n.pc k y = (y.dk == 0 && y.ds == 0 && !y.dl && !y.dp && !y.df && y.who == 0) := by unfold workB; rw [if_pos h0]
    have HW := Lib.hid hwb; clear hwb h0
    cases d1 : (y.dk == 0) <;> cases d2 : (y.ds == 0) <;> cases d3 : y.dl <;> cases d4 : y.dp <;> cases d5 : y.df <;> cases d6 : (y.who == 0)
    all_goals (rw [d3] at q5; rw [d4] at q6; rw [d5] at q7)
    all_goals (go_wp2_with fail)
    all_goals go_ret
    all_goals first | exact tells_no (fun h => by have h5 := h.2.2.2.2; rw [HW.out] at h5; simp [d1, d2, d3, d4, d5, d6] at h5) BB.out | exact tells_yes ⟨t1, T2y.out, t3, t4, by rw [HW.out]; simp [d1, d2, d3, d4, d5, d6]⟩ BB.out
  have e0 : (y.par == 0) = false := by simpa using h0
  have hwb : workB n.pc k y = (inR y.par 1 n.pc.length && (pcAt n.pc y.par).site == (k : Int) && (pcAt n.pc y.par).stage == 2 && ((y.dk == 1 && y.who == 0) || (y.dk == 2 && inR y.who 0 40))) := by unfold workB; rw [if_neg h0]
  have HW := Lib.hid hwb; clear hwb h0
  have z12 := has_cell K0.out 12 rfl; have zl := has_lt K0.out
  go_wp2_with fail
  refine (inR_any _ y.par 1 n.pc.length).mono ?_
  rintro e w' ⟨rfl, hw⟩
  rw [hw]; clear hw
  cases hp : inR y.par 1 n.pc.length
  · go_wp2_with fail
    go_ret
    exact tells_no (fun h => by have h5 := h.2.2.2.2; rw [HW.out] at h5; simp [hp] at h5) BB.out
  have hpr := inR_iff.1 hp
  obtain ⟨j, hj⟩ : ∃ j : Nat, y.par = (j : Int) + 1 := ⟨(y.par - 1).toNat, by omega⟩
  have hjl : j < n.pc.length := by omega
  obtain ⟨b2, off2, p, hA2, hbB2, hp2, pc0, pc1, pc2, pc3, pc4, pc5, pc6, pc7, pc8, pc9, pc10, pc11, pc12⟩ := ((HV.out.later hB BB.out).pl).at_ hjl
  have hpa : pcAt n.pc y.par = p := by rw [hj]; exact pcAt_eq hp2
  rw [hpa, hp] at HW
  have hbw2 : b2 < w5.heap.size := by omega
  clear hp2 hpa hpr hp
  rw [hA2] at z12
  rw [hA2]
  rw [hj] at q8 ⊢
  have hjj0 : (0 : Int) ≤ (j : Int) := by omega
  have hjj1 : (j : Int) < (n.pc.length : Int) := by omega
  have hjw : IntKind.i64.wrap ((j : Int) + 1 - 1) = (j : Int) := by rw [Int.add_sub_cancel]; exact IntWalk.i64_in _ (by omega)
  rw [hj] at e0; clear hj
  by_cases h1 : p.site = (k : Int)
  · have f1 : (p.site != (k : Int)) = false := by simpa using h1
    have g1 : (p.site == (k : Int)) = true := by simpa using h1
    rw [g1] at HW
    clear h1 g1
    by_cases h2 : p.stage = 2
    · have f2 : (p.stage != 2) = false := by simpa using h2
      have g2 : (p.stage == 2) = true := by simpa using h2
      rw [g2] at HW
      clear h2 g2
      by_cases h3 : y.dk = 1
      · have f3 : (y.dk == 1) = true := by simpa using h3
        have g3 : (y.dk == 2) = false := by rw [h3]; rfl
        rw [f3, g3] at HW
        clear h3
        cases h5 : (y.who == 0)
        · go_wp2_with fail
          go_ret
          exact tells_no (fun h => by have h5 := h.2.2.2.2; rw [HW.out] at h5; simp_all) BB.out
        · go_wp2_with fail
          go_ret
          exact tells_yes ⟨t1, T2y.out, t3, t4, by rw [HW.out]; simp_all⟩ BB.out
      · have f3 : (y.dk == 1) = false := by simpa using h3
        rw [f3] at HW
        by_cases h4 : y.dk = 2
        · have f4 : (y.dk == 2) = true := by simpa using h4
          rw [f4] at HW
          clear h3 h4
          go_wp2_with fail
          refine (inR_any _ y.who 0 40).mono ?_
          rintro e w' ⟨rfl, hw⟩
          rw [hw]; clear hw
          cases h5 : inR y.who 0 40
          · go_wp2_with fail
            go_ret
            exact tells_no (fun h => by have h6 := h.2.2.2.2; rw [HW.out] at h6; simp_all) BB.out
          · go_wp2_with fail
            go_ret
            exact tells_yes ⟨t1, T2y.out, t3, t4, by rw [HW.out]; simp_all⟩ BB.out
        · have f4 : (y.dk == 2) = false := by simpa using h4
          rw [f4] at HW
          clear h3 h4
          go_wp2_with fail
          go_ret
          exact tells_no (fun h => by have h6 := h.2.2.2.2; rw [HW.out] at h6; simp_all) BB.out
    · have f2 : (p.stage != 2) = true := by simpa using h2
      have g2 : (p.stage == 2) = false := by simpa using h2
      rw [g2] at HW
      clear h2 g2
      go_wp2_with fail
      go_ret
      exact tells_no (fun h => by have h6 := h.2.2.2.2; rw [HW.out] at h6; simp_all) BB.out
  · have f1 : (p.site != (k : Int)) = true := by simpa using h1
    have g1 : (p.site == (k : Int)) = false := by simpa using h1
    rw [g1] at HW
    clear h1 g1
    go_wp2_with fail
    go_ret
    exact tells_no (fun h => by have h6 := h.2.2.2.2; rw [HW.out] at h6; simp_all) BB.out
end Go.Proofs.YtjpkpfmpjgeeiaaGreat
