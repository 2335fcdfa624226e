
/- Chapter 9: vanLoad, workOk, sitesOk of the program (gen_npb.py). -/
import Derived.Test.YtjpkpfmpjgeeiaaGreatQ39
import Derived.Test.YtjpkpfmpjgeeiaaGreatQ30
import Derived.Test.YtjpkpfmpjgeeiaaGreatQ11
namespace Go.Proofs.YtjpkpfmpjgeeiaaGreat
open Go.RowKit
set_option linter.unusedVariables false
set_option maxRecDepth 100000
theorem per_who {x : Int} (h : ¬ x = 0) : perB x = inR x 0 40 := by
  unfold perB inR
  rw [Bool.eq_iff_iff]
  simp only [Bool.and_eq_true, decide_eq_true_eq]
  omega
set_option maxHeartbeats 2000000 in
theorem vanI_any (w : World) (g o B : Nat) (n : Net) (H : NetIn w g o n) (hB : B ≤ w.heap.size) (hV : NetV w B n) (hz : ∀ p ∈ n.pc, 0 ≤ p.size ∧ p.size ≤ 24) (hs : ∀ p ∈ n.pc, p.stage = 2 → 0 ≤ p.site ∧ p.site < n.st.length) (hl : n.pc.length ≤ 12) :
    Calls Tryz.prog 49 #[.pointer (some ⟨g, o, none⟩)] w fun e w' => e = .returned (.int .i64 (loadL n.st n.pc)) ∧ Below w.heap.size w w' := by
  have HV := Lib.hid hV; have HH := Lib.hid H; have HZ := Lib.hid (load_bd (S := n.st) hz); have HSS := Lib.hid hs; have hl1 := hV.l1; have HSZ := Lib.hid hz; clear hV H hz hs
  have nc12 := HH.out.c 12 _ rfl
  have gl := HH.out.lt
  go_enter Tryz.func49, Tryz.ntmps49
  go_wp2_with fail
  clear nc12 gl
  go_loopw [3, 11] (fun sv i wr => ∃ k : Nat, k ≤ n.pc.length ∧ i = .int .i64 (k : Int) ∧ sv = .int .i64 (loadL n.st (n.pc.take k)) ∧ Below w.heap.size w wr) (fun _ i _ => n.pc.length - (intOf i).toNat)
  case atStart => exact ⟨0, Nat.zero_le _, rfl, rfl, Below.refl _ _⟩
  case round =>
    obtain ⟨k, hk, rfl, rfl, hb⟩ := hrel
    have hsz := hb.size
    by_cases hlt : k < n.pc.length
    · obtain ⟨b, off, p, hA, hbB, hp, hc0, hc1, hc2, hc3, hc4, hc5, hc6, hc7, hc8, hc9, hc10, hc11, hc12⟩ := ((HV.out.later hB hb).pl).at_ hlt
      have hst := load_succ (S := n.st) hp
      have h1 := HZ.out k; have h2 := HZ.out (k + 1)
      have hpz := HSZ.out p (List.mem_of_getElem? hp)
      have hss := HSS.out p (List.mem_of_getElem? hp)
      push_cast at h2
      rw [hst] at h2
      have HST := Lib.hid hst; have HS1 := Lib.hid hss; clear hst hss hp
      have hkk0 : (0 : Int) ≤ (k : Int) := by omega
      have hkk1 : (k : Int) < (n.pc.length : Int) := by omega
      have hbw : b < wr.heap.size := by omega
      generalize loadL n.st (n.pc.take k) = sm at *
      rw [hA]
      by_cases h0 : p.stage = 0
      · have e0 : (p.stage != 0) = false := by simpa using h0
        rw [if_neg (by simp [h0])] at h2 HST
        clear h0
        go_wp2_with fail
        go_roundw
        case rel => exact ⟨k + 1, by omega, by go_num, by rw [HST.out, Int.add_zero], bthen hb (balloc _ _)⟩
        case measure => simp [intOf]; omega
      · have e0 : (p.stage != 0) = true := by simpa using h0
        go_wp2_with fail
        generalize hW : wr.alloc (.cells #[.int .i64 p.size, .int .i64 p.owner, .int .i64 p.site, .int .i64 p.stage, .int .i64 p.since, .int .i64 p.ext, .int .i64 p.ls, .int .i64 p.ln, .int .i64 p.lt, .int .i64 p.lp, .int .i64 p.lu, .int .i64 p.who, .int .i64 p.fee] 55) = w1
        have b1 : Below wr.heap.size wr w1 := by rw [← hW]; exact balloc _ _
        have k1 : Has w1 wr.heap.size 55 #[.int .i64 p.size, .int .i64 p.owner, .int .i64 p.site, .int .i64 p.stage, .int .i64 p.since, .int .i64 p.ext, .int .i64 p.ls, .int .i64 p.ln, .int .i64 p.lt, .int .i64 p.lp, .int .i64 p.lu, .int .i64 p.who, .int .i64 p.fee] := by rw [← hW]; exact has_new _ _ _
        clear hW hc0 hc1 hc2 hc3 hc4 hc5 hc6 hc7 hc8 hc9 hc10 hc11 hc12
        have hs1 := b1.size
        have hb1 := bthen hb b1
        refine (unplI_any w1 g o B n p (HH.out.later hb1) (by omega) ((HV.out.later hB hb1).si) hl1 HS1.out).mono ?_
        rintro e w2 ⟨rfl, hb2⟩
        have hb3 := bthen hb1 hb2
        have q0 := has_cell (has_call k1 hb2) 0 rfl; have ql := has_lt (has_call k1 hb2)
        clear k1 hb1 hb2 b1
        cases hu : unplB n.st p
        · rw [if_neg (by simp [hu])] at h2 HST
          go_wp2_with fail
          go_roundw
          case rel => exact ⟨k + 1, by omega, by go_num, by rw [HST.out, Int.add_zero], hb3⟩
          case measure => simp [intOf]; omega
        · rw [if_pos (by simp [hu, h0])] at h2 HST
          go_wp2_with fail
          go_roundw
          case rel => exact ⟨k + 1, by omega, by go_num, by rw [HST.out], hb3⟩
          case measure => simp [intOf]; omega
    · have hkl : k = n.pc.length := by omega
      subst hkl
      rw [List.take_length]
      have hkk : ¬ (n.pc.length : Int) < (n.pc.length : Int) := by omega
      go_wp2_with fail
      go_ret
      exact ⟨rfl, hb⟩
set_option maxHeartbeats 4000000 in
theorem workI_any (w : World) (g o B : Nat) (n : Net) (k : Nat) (y : Sit) (hy : n.st[k]? = some y) (H : NetIn w g o n) (hB : B ≤ w.heap.size) (hV : NetV w B n) :
    Calls Tryz.prog 82 #[.pointer (some ⟨g, o, none⟩), .int .i64 (k : Int)] w fun e w' => e = .returned (.bool (workB n.pc k y)) ∧ Below w.heap.size w w' := by
  have HV := Lib.hid hV; have HH := Lib.hid H; have hl1 := hV.l1; have hl2 := hV.l2; clear hV H
  unfold maxLen at hl1
  have hkl : k < n.st.length := (List.getElem?_eq_some_iff.1 hy).1
  have HSI := HV.out.si.at_ hkl
  obtain ⟨b, off, y', hA, hbB, hy', hc0, hc1, hc2, hc3, hc4, hc5, hc6, hc7, hc8, hc9, hc10⟩ := HSI
  obtain rfl : y = y' := by rw [hy] at hy'; injection hy'
  have nc11 := HH.out.c 11 _ rfl
  rw [hA] at nc11
  have gl := HH.out.lt
  have hkk0 : (0 : Int) ≤ (k : Int) := by omega
  have hkk1 : (k : Int) < (n.st.length : Int) := by omega
  have hbw : b < w.heap.size := by omega
  clear hy hy'
  go_enter Tryz.func82, Tryz.ntmps82
  go_upto_region 2 with fail
  clear nc11 gl hc0 hc1 hc2 hc3 hc4 hc5 hc6 hc7 hc8 hc9 hc10
  generalize hW : w.alloc (.cells #[.slice y.A1 y.o.length y.c1, .slice y.A2 y.q.length y.c2, .slice y.AB y.bk.length y.cB, .int .i64 y.dk, .int .i64 y.ds, .bool y.dl, .bool y.dp, .bool y.df, .int .i64 y.par, .int .i64 y.who, .slice y.AJ y.jr.length y.cJ] 88) = w1
  have b1 : Below w.heap.size w w1 := by rw [← hW]; exact balloc _ _
  have k1 : Has w1 w.heap.size 88 #[.slice y.A1 y.o.length y.c1, .slice y.A2 y.q.length y.c2, .slice y.AB y.bk.length y.cB, .int .i64 y.dk, .int .i64 y.ds, .bool y.dl, .bool y.dp, .bool y.df, .int .i64 y.par, .int .i64 y.who, .slice y.AJ y.jr.length y.cJ] := by rw [← hW]; exact has_new _ _ _
  clear hW
  have hs1 := b1.size
  have K := Lib.hid k1
  have q3 := has_cell k1 3 rfl; have q4 := has_cell k1 4 rfl; have q5 := has_cell k1 5 rfl; have q6 := has_cell k1 6 rfl; have q7 := has_cell k1 7 rfl; have q8 := has_cell k1 8 rfl; have q9 := has_cell k1 9 rfl; have ql := has_lt k1
  clear k1
  by_cases h0 : y.par = 0
  · have e0 : (y.par == 0) = true := by simpa using h0
    have hwb : workB n.pc k y = (y.dk == 0 && y.ds == 0 && !y.dl && !y.dp && !y.df && y.who == 0) := by unfold workB; rw [if_pos h0]
    have HW := Lib.hid hwb; clear hwb h0
    cases d1 : (y.dk == 0) <;> cases d2 : (y.ds == 0) <;> cases d3 : y.dl <;> cases d4 : y.dp <;> cases d5 : y.df <;> cases d6 : (y.who == 0)
    all_goals (rw [d3] at q5; rw [d4] at q6; rw [d5] at q7)
    all_goals (go_wp2_with fail)
    all_goals (go_ret; exact ⟨rbool (by rw [HW.out]; simp [d1, d2, d3, d4, d5, d6]), b1⟩)
  · have e0 : (y.par == 0) = false := by simpa using h0
    have hwb : workB n.pc k y = (inR y.par 1 n.pc.length && (pcAt n.pc y.par).site == (k : Int) && (pcAt n.pc y.par).stage == 2 && ((y.dk == 1 && y.who == 0) || (y.dk == 2 && inR y.who 0 40))) := by unfold workB; rw [if_neg h0]
    have HW := Lib.hid hwb; clear hwb h0
    go_wp2_with fail
    refine (hasP_any w1 g o n y.par (HH.out.later b1)).mono ?_
    rintro e w' ⟨rfl, hw⟩
    rw [hw]; clear hw
    cases hp : inR y.par 1 n.pc.length
    · go_wp2_with fail
      go_ret
      exact ⟨rbool (by rw [HW.out]; simp [hp]), b1⟩
    have hpr := inR_iff.1 hp
    obtain ⟨j, hj⟩ : ∃ j : Nat, y.par = (j : Int) + 1 := ⟨(y.par - 1).toNat, by omega⟩
    have hjl : j < n.pc.length := by omega
    obtain ⟨b2, off2, p, hA2, hbB2, hp2, pc0, pc1, pc2, pc3, pc4, pc5, pc6, pc7, pc8, pc9, pc10, pc11, pc12⟩ := ((HV.out.later hB b1).pl).at_ hjl
    have hpa : pcAt n.pc y.par = p := by rw [hj]; exact pcAt_eq hp2
    rw [hpa, hp] at HW
    have HP := Lib.hid (fun W (h : NetIn W g o n) => parN_any W g o n j b2 off2 hjl hl2 hA2 h)
    have hbw2 : b2 < w1.heap.size := by omega
    clear hp2 hpa hA2 hpr hp
    have hwp := HP.out w1 (HH.out.later b1)
    rw [← hj] at hwp
    have HWP := Lib.hid hwp; clear hwp hj
    go_wp2_with fail
    refine HWP.out.mono ?_
    rintro e w' ⟨rfl, hw⟩
    rw [hw]; clear hw
    by_cases h1 : p.site = (k : Int)
    · have f1 : (p.site != (k : Int)) = false := by simpa using h1
      have g1 : (p.site == (k : Int)) = true := by simpa using h1
      rw [g1] at HW
      clear h1 g1
      go_wp2_with fail
      refine HWP.out.mono ?_
      rintro e w' ⟨rfl, hw⟩
      rw [hw]; clear hw
      by_cases h2 : p.stage = 2
      · have f2 : (p.stage != 2) = false := by simpa using h2
        have g2 : (p.stage == 2) = true := by simpa using h2
        rw [g2] at HW
        clear h2 g2
        by_cases h3 : y.dk = 1
        · have f3 : (y.dk == 1) = true := by simpa using h3
          have g3 : (y.dk == 2) = false := by rw [h3]; rfl
          rw [f3, g3] at HW
          clear h3 g3
          go_wp2_with fail
          go_ret
          exact ⟨rbool (by rw [HW.out]; simp), b1⟩
        · have f3 : (y.dk == 1) = false := by simpa using h3
          rw [f3] at HW
          by_cases h4 : y.dk = 2
          · have f4 : (y.dk == 2) = true := by simpa using h4
            rw [f4] at HW
            clear h3 h4
            by_cases h5 : y.who = 0
            · have f5 : (y.who == 0) = true := by simpa using h5
              go_wp2_with fail
              go_ret
              exact ⟨rbool (by rw [HW.out, h5]; simp [inR]), b1⟩
            · have f5 : (y.who == 0) = false := by simpa using h5
              go_wp2_with fail
              refine (perI_any _ y.who).mono ?_
              rintro e w' ⟨rfl, hw⟩
              rw [hw]; clear hw
              go_wp2_with fail
              go_ret
              exact ⟨rbool (by rw [HW.out, f5, per_who h5]; simp), b1⟩
          · have f4 : (y.dk == 2) = false := by simpa using h4
            rw [f4] at HW
            clear h3 h4
            go_wp2_with fail
            go_ret
            exact ⟨rbool (by rw [HW.out]; simp), b1⟩
      · have f2 : (p.stage != 2) = true := by simpa using h2
        have g2 : (p.stage == 2) = false := by simpa using h2
        rw [g2] at HW
        clear h2 g2
        go_wp2_with fail
        go_ret
        exact ⟨rbool (by rw [HW.out]; simp), b1⟩
    · have f1 : (p.site != (k : Int)) = true := by simpa using h1
      have g1 : (p.site == (k : Int)) = false := by simpa using h1
      rw [g1] at HW
      clear h1 g1
      go_wp2_with fail
      go_ret
      exact ⟨rbool (by rw [HW.out]; simp), b1⟩
def SitesP (n : Net) (m : Nat) : Prop := ∀ (k : Nat) (s : Sit), k < m → n.st[k]? = some s → SiteP n.pc k s
set_option maxHeartbeats 4000000 in
theorem sitesI_any (w : World) (g o B : Nat) (n : Net) (H : NetIn w g o n) (hB : B ≤ w.heap.size) (hV : NetV w B n) :
    Calls Tryz.prog 46 #[.pointer (some ⟨g, o, none⟩)] w (Tells (SitesP n n.st.length) w) := by
  have HV := Lib.hid hV; have HH := Lib.hid H; have hl1 := hV.l1; clear hV H
  unfold maxLen at hl1
  have nc11 := HH.out.c 11 _ rfl
  have gl := HH.out.lt
  go_enter Tryz.func46, Tryz.ntmps46
  go_wp2_with fail
  clear nc11 gl
  go_loopw [10] (fun i wr => ∃ k : Nat, k ≤ n.st.length ∧ i = .int .i64 (k : Int) ∧ SitesP n k ∧ Below w.heap.size w wr) (fun i _ => n.st.length - (intOf i).toNat)
  case atStart => exact ⟨0, Nat.zero_le _, rfl, fun k s h => absurd h (Nat.not_lt_zero _), Below.refl _ _⟩
  case round =>
    obtain ⟨k, hk, rfl, hok, hb⟩ := hrel
    have HOK := Lib.hid hok; clear hok
    have hsz := hb.size
    by_cases hlt : k < n.st.length
    · obtain ⟨b, off, y, hA, hbB, hy, hc0, hc1, hc2, hc3, hc4, hc5, hc6, hc7, hc8, hc9, hc10⟩ := ((HV.out.later hB hb).si).at_ hlt
      have hkk0 : (0 : Int) ≤ (k : Int) := by omega
      have hkk1 : (k : Int) < (n.st.length : Int) := by omega
      have hbw : b < wr.heap.size := by omega
      have hfin : ∀ (P : Prop), (SiteP n.pc k y → P) → (SitesP n n.st.length → P) := fun P f h => f (h k y hlt hy)
      have hnext : SiteP n.pc k y → SitesP n (k + 1) := fun h j s hj hs => by
        by_cases e : j = k
        · subst e; rw [hy] at hs; injection hs with hs; subst hs; exact h
        · exact HOK.out j s (by omega) hs
      have hvy := (HV.out.sv y (List.mem_of_getElem? hy))
      have HFIN := Lib.hid hfin; have HNX := Lib.hid hnext; have HY := Lib.hid hy; have HVY := Lib.hid hvy; clear hfin hnext hy hvy
      rw [hA]
      go_wp2_with fail
      clear hc0 hc1 hc2 hc3 hc4 hc5 hc6 hc7 hc8 hc9 hc10
      generalize hW : wr.alloc (.cells #[.slice y.A1 y.o.length y.c1, .slice y.A2 y.q.length y.c2, .slice y.AB y.bk.length y.cB, .int .i64 y.dk, .int .i64 y.ds, .bool y.dl, .bool y.dp, .bool y.df, .int .i64 y.par, .int .i64 y.who, .slice y.AJ y.jr.length y.cJ] 88) = w1
      have b1 : Below wr.heap.size wr w1 := by rw [← hW]; exact balloc _ _
      have k1 : Has w1 wr.heap.size 88 #[.slice y.A1 y.o.length y.c1, .slice y.A2 y.q.length y.c2, .slice y.AB y.bk.length y.cB, .int .i64 y.dk, .int .i64 y.ds, .bool y.dl, .bool y.dp, .bool y.df, .int .i64 y.par, .int .i64 y.who, .slice y.AJ y.jr.length y.cJ] := by rw [← hW]; exact has_new _ _ _
      clear hW
      have hs1 := b1.size
      have BB := Lib.hid (bthen hb b1); have K := Lib.hid k1; clear k1 b1
      refine (weekI_any w1 B y.A1 y.A2 y.c1 y.c2 y.o y.q HVY.out.l1 HVY.out.l2 (by omega) (HVY.out.later hB BB.out).so (HVY.out.later hB BB.out).sq).mono ?_
      rintro e w2 ⟨rfl, hb⟩
      have kk := bthen BB.out hb; clear BB; have BB := Lib.hid kk; clear kk
      have kk := has_call K.out hb; clear K; have K := Lib.hid kk; clear kk
      have hsw2 := hb.size; clear hb
      have q2 := has_cell K.out 2 rfl; have ql := has_lt K.out
      cases t1 : weekB y.o y.q
      · go_wp2_with fail
        go_ret
        exact tells_no (HFIN.out False (fun h => by rw [h.1] at t1; cases t1)) BB.out
      go_wp2_with fail
      clear q2 ql
      refine (bankI_any w2 B y.AB y.bk.length y.cB y.bk rfl HVY.out.l3 (by omega) (HVY.out.later hB BB.out).kb (HVY.out.later hB BB.out).cv).mono ?_
      rintro e w3 ⟨r2, rfl, t2, hb⟩
      have kk := bthen BB.out hb; clear BB; have BB := Lib.hid kk; clear kk
      have kk := has_call K.out hb; clear K; have K := Lib.hid kk; clear kk
      have hsw3 := hb.size; clear hb
      have q3 := has_cell K.out 3 rfl; have q4 := has_cell K.out 4 rfl; have q5 := has_cell K.out 5 rfl; have q6 := has_cell K.out 6 rfl; have q7 := has_cell K.out 7 rfl; have ql := has_lt K.out
      have T2 := Lib.hid t2; clear t2
      cases r2
      · go_wp2_with fail
        go_ret
        exact tells_no (HFIN.out False (fun h => by have := T2.out.2 h.2.1; cases this)) BB.out
      go_wp2_with fail
      clear q3 q4 q5 q6 q7 ql
      refine (doorI_any w3 y.dk y.ds y.dl y.dp y.df).mono ?_
      rintro e w4 ⟨rfl, hb⟩
      have kk := bthen BB.out hb; clear BB; have BB := Lib.hid kk; clear kk
      have kk := has_call K.out hb; clear K; have K := Lib.hid kk; clear kk
      have hsw4 := hb.size; clear hb
      have q10 := has_cell K.out 10 rfl; have ql := has_lt K.out
      cases t3 : doorB y.dk y.ds y.dl y.dp y.df
      · go_wp2_with fail
        go_ret
        exact tells_no (HFIN.out False (fun h => by rw [h.2.2.1] at t3; cases t3)) BB.out
      go_wp2_with fail
      clear q10 ql
      refine (jrnI_any w4 B y.AJ y.cJ y.jr HVY.out.l4 (by omega) (HVY.out.later hB BB.out).ej).mono ?_
      rintro e w5 ⟨rfl, hb⟩
      have kk := bthen BB.out hb; clear BB; have BB := Lib.hid kk; clear kk
      have kk := has_call K.out hb; clear K; have K := Lib.hid kk; clear kk
      have hsw5 := hb.size; clear hb
      skip
      cases t4 : jrnB y.jr
      · go_wp2_with fail
        go_ret
        exact tells_no (HFIN.out False (fun h => by rw [h.2.2.2.1] at t4; cases t4)) BB.out
      go_wp2_with fail
      refine (workI_any w5 g o B n k y HY.out (HH.out.later BB.out) (by omega) (HV.out.later hB BB.out)).mono ?_
      rintro e w6 ⟨rfl, hb⟩
      have kk := bthen BB.out hb; clear BB; have BB := Lib.hid kk; clear kk
      have kk := has_call K.out hb; clear K; have K := Lib.hid kk; clear kk
      have hsw6 := hb.size; clear hb
      skip
      cases t5 : workB n.pc k y
      · go_wp2_with fail
        go_ret
        exact tells_no (HFIN.out False (fun h => by rw [h.2.2.2.2] at t5; cases t5)) BB.out
      go_wp2_with fail
      go_roundw
      case rel => exact ⟨k + 1, by omega, by go_num, HNX.out ⟨t1, (by have h9 := T2.out; simpa using h9), t3, t4, t5⟩, BB.out⟩
      case measure => simp [intOf]; omega
    · have hkl : k = n.st.length := by omega
      subst hkl
      have hkk : ¬ (n.st.length : Int) < (n.st.length : Int) := by omega
      go_wp2_with fail
      go_ret
      exact tells_yes HOK.out hb
end Go.Proofs.YtjpkpfmpjgeeiaaGreat
