
/- Chapter 9: the model's l09ParcelOk (gen_npt.py). -/
import Derived.Test.YtjpkpfmpjgeeiaaGreatQ33
import Derived.Deep.DeepCutAuto
namespace Go.Proofs.YtjpkpfmpjgeeiaaGreat
open Go.RowKit
set_option linter.unusedVariables false
set_option maxRecDepth 100000
set_option maxHeartbeats 8000000 in
theorem parS_oth (w : World) (B : Nat) (n : Net) (k : Nat) (p : Pc) (hp : n.pc[k]? = some p) (hB : B ≤ w.heap.size) (hV : NetV w B n) (ht : termsB n.tm = true) (hl12 : n.pc.length ≤ 12) (hl3 : n.st.length ≤ 3) (h1 : inR p.size 1 24 = true) (h2 : perB p.owner = true) (h3 : (decide (0 ≤ p.site) && decide (p.site < (n.st.length : Int))) = true) (h4 : inR p.stage 0 5 = true) (e1 : (p.stage == 2) = false) :
    Calls Tryz.prog 38 #[.agg #[.int .i64 n.tm.keep, .int .i64 n.tm.free, .int .i64 n.tm.step, .int .i64 n.tm.rate, .int .i64 n.tm.cap, .int .i64 n.tm.longer, .int .i64 n.tm.price, .int .i64 n.tm.most, .int .i64 n.room, .int .i64 n.secret, .int .i64 n.now, .slice n.AS n.st.length n.cS, .slice n.AP n.pc.length n.cP, .slice n.AG n.gr.length n.cG, .slice n.AJ n.jr.length n.cJ], .int .i64 (k : Int)] w fun e w' => e = .returned (.bool (parB n k p)) ∧ Below w.heap.size w w' := by
  have hkl : k < n.pc.length := (List.getElem?_eq_some_iff.1 hp).1
  obtain ⟨b, off, p', hA, hbB, hp', hc0, hc1, hc2, hc3, hc4, hc5, hc6, hc7, hc8, hc9, hc10, hc11, hc12⟩ := hV.pl.at_ hkl
  obtain rfl : p = p' := by rw [hp] at hp'; injection hp'
  have hcb := cap_bd ht
  have hcr := ((terms_iff n.tm).1 ht).2.2.2.2.2.1
  have hmr := ((terms_iff n.tm).1 ht).2.2.2.2.2.2
  have HV := Lib.hid hV; have HP := Lib.hid hp; clear hV hp hp' ht
  have hkk0 : (0 : Int) ≤ (k : Int) := by omega
  have hkk1 : (k : Int) < (n.pc.length : Int) := by omega
  have hk12 : (k : Int) ≤ 12 := by omega
  have hbw : b < w.heap.size := by omega
  go_enter Tryz.func38, Tryz.ntmps38
  rw [hA]
  go_upto_region 2 with fail
  rw [← hA]
  clear hc0 hc1 hc2 hc3 hc4 hc5 hc6 hc7 hc8 hc9 hc10 hc11 hc12 hA
  generalize hW : (w.alloc (.cells #[.int .i64 n.tm.keep, .int .i64 n.tm.free, .int .i64 n.tm.step, .int .i64 n.tm.rate, .int .i64 n.tm.cap, .int .i64 n.tm.longer, .int .i64 n.tm.price, .int .i64 n.tm.most, .int .i64 n.room, .int .i64 n.secret, .int .i64 n.now, .slice n.AS n.st.length n.cS, .slice n.AP n.pc.length n.cP, .slice n.AG n.gr.length n.cG, .slice n.AJ n.jr.length n.cJ] 38)).alloc (.cells #[.int .i64 p.size, .int .i64 p.owner, .int .i64 p.site, .int .i64 p.stage, .int .i64 p.since, .int .i64 p.ext, .int .i64 p.ls, .int .i64 p.ln, .int .i64 p.lt, .int .i64 p.lp, .int .i64 p.lu, .int .i64 p.who, .int .i64 p.fee] 55) = w1
  have b1 : Below w.heap.size w w1 := by rw [← hW]; exact bthen (balloc _ _) (balloc _ _)
  have k0 : Has w1 w.heap.size 38 #[.int .i64 n.tm.keep, .int .i64 n.tm.free, .int .i64 n.tm.step, .int .i64 n.tm.rate, .int .i64 n.tm.cap, .int .i64 n.tm.longer, .int .i64 n.tm.price, .int .i64 n.tm.most, .int .i64 n.room, .int .i64 n.secret, .int .i64 n.now, .slice n.AS n.st.length n.cS, .slice n.AP n.pc.length n.cP, .slice n.AG n.gr.length n.cG, .slice n.AJ n.jr.length n.cJ] := by rw [← hW]; exact has_alloc (has_new _ _ _) _
  have k1 : Has w1 (w.heap.size + 1) 55 #[.int .i64 p.size, .int .i64 p.owner, .int .i64 p.site, .int .i64 p.stage, .int .i64 p.since, .int .i64 p.ext, .int .i64 p.ls, .int .i64 p.ln, .int .i64 p.lt, .int .i64 p.lp, .int .i64 p.lu, .int .i64 p.who, .int .i64 p.fee] := by rw [← hW]; have := has_new (w.alloc (.cells #[.int .i64 n.tm.keep, .int .i64 n.tm.free, .int .i64 n.tm.step, .int .i64 n.tm.rate, .int .i64 n.tm.cap, .int .i64 n.tm.longer, .int .i64 n.tm.price, .int .i64 n.tm.most, .int .i64 n.room, .int .i64 n.secret, .int .i64 n.now, .slice n.AS n.st.length n.cS, .slice n.AP n.pc.length n.cP, .slice n.AG n.gr.length n.cG, .slice n.AJ n.jr.length n.cJ] 38)) 55 #[.int .i64 p.size, .int .i64 p.owner, .int .i64 p.site, .int .i64 p.stage, .int .i64 p.since, .int .i64 p.ext, .int .i64 p.ls, .int .i64 p.ln, .int .i64 p.lt, .int .i64 p.lp, .int .i64 p.lu, .int .i64 p.who, .int .i64 p.fee]; simpa using this
  clear hW
  have hs1 := b1.size
  have BB := Lib.hid b1; have K0 := Lib.hid k0; have K := Lib.hid k1; clear k0 k1 b1
  have q0 := has_cell K.out 0 rfl; have q1 := has_cell K.out 1 rfl; have q2 := has_cell K.out 2 rfl; have q3 := has_cell K.out 3 rfl; have q4 := has_cell K.out 4 rfl; have q5 := has_cell K.out 5 rfl; have q6 := has_cell K.out 6 rfl; have q7 := has_cell K.out 7 rfl; have q8 := has_cell K.out 8 rfl; have q9 := has_cell K.out 9 rfl; have q10 := has_cell K.out 10 rfl; have q11 := has_cell K.out 11 rfl; have q12 := has_cell K.out 12 rfl; have ql := has_lt K.out
  have z0 := has_cell K0.out 0 rfl; have z1 := has_cell K0.out 1 rfl; have z2 := has_cell K0.out 2 rfl; have z3 := has_cell K0.out 3 rfl; have z4 := has_cell K0.out 4 rfl; have z5 := has_cell K0.out 5 rfl; have z6 := has_cell K0.out 6 rfl; have z7 := has_cell K0.out 7 rfl; have z8 := has_cell K0.out 8 rfl; have z9 := has_cell K0.out 9 rfl; have z10 := has_cell K0.out 10 rfl; have z11 := has_cell K0.out 11 rfl; have z12 := has_cell K0.out 12 rfl; have z13 := has_cell K0.out 13 rfl; have z14 := has_cell K0.out 14 rfl; have zl := has_lt K0.out
  go_wp2_with fail
  refine (inR_any _ p.size 1 24).mono ?_
  rintro e w' ⟨rfl, hw⟩
  rw [hw]; clear hw
  rw [h1]
  go_wp2_with fail
  refine (perS_any _ p.owner).mono ?_
  rintro e w' ⟨rfl, hw⟩
  rw [hw]; clear hw
  rw [h2]
  go_wp2_with fail
  refine (inR_any _ p.site 0 ((n.st.length : Int) - 1)).mono ?_
  rintro e w' ⟨rfl, hw⟩
  rw [hw]; clear hw
  rw [site_in]
  rw [h3]
  have hsr : 0 ≤ p.site ∧ p.site < n.st.length := by simpa using h3
  go_wp2_with fail
  refine (inR_any _ p.stage 0 5).mono ?_
  rintro e w' ⟨rfl, hw⟩
  rw [hw]; clear hw
  rw [h4]
  have hpb2 : parB n k p = stayB n k p := by unfold parB; rw [h1, h2, h3, h4, e1]; simp
  have hun := unplS_any w1 B n k p HP.out (by omega) (HV.out.later hB BB.out) (fun _ => hsr)
  have HUN := Lib.hid hun; clear hun
  go_wp2_with fail
  clear q0 q1 q2 q3 q4 q5 q6 q7 q8 q9 q10 q11 q12 ql
  clear z0 z1 z2 z3 z4 z5 z6 z7 z8 z9 z10 z11 z12 z13 z14 zl
  clear e1
  have HP2 := Lib.hid hpb2; clear hpb2
  refine (HUN.out).mono ?_
  rintro e w2 ⟨rfl, hb⟩
  have kk := bthen BB.out hb; clear BB; have BB := Lib.hid kk; clear kk
  have kk := has_call K.out hb; clear K; have K := Lib.hid kk; clear kk
  have kk := has_call K0.out hb; clear K0; have K0 := Lib.hid kk; clear kk
  have hsw2 := hb.size; clear hb
  cases hu : unplB n.st p
  · have hsv : stayB n k p = (inR p.since 0 n.now && inR p.ext 0 n.tm.most && lockB p.ls p.ln p.lt p.lp p.lu && p.ls == secV n.secret ((k : Int) + 1) && (if p.stage = 4 then perB p.who && inR p.fee 0 (n.tm.cap + n.tm.price * n.tm.most) else p.who == 0 && p.fee == 0)) := by unfold stayB; rw [if_neg (by simp [hu])]
    have HSV := Lib.hid hsv; clear hsv
    go_upto_region 6 with fail
    cases h1 : inR p.since 0 n.now
    · skip
      have hlp := has_lt K.out; have hln := has_lt K0.out
      have pc0 := has_cell (has_drew K.out) 0 rfl; have pc1 := has_cell (has_drew K.out) 1 rfl; have pc2 := has_cell (has_drew K.out) 2 rfl; have pc3 := has_cell (has_drew K.out) 3 rfl; have pc4 := has_cell (has_drew K.out) 4 rfl; have pc5 := has_cell (has_drew K.out) 5 rfl; have pc6 := has_cell (has_drew K.out) 6 rfl; have pc7 := has_cell (has_drew K.out) 7 rfl; have pc8 := has_cell (has_drew K.out) 8 rfl; have pc9 := has_cell (has_drew K.out) 9 rfl; have pc10 := has_cell (has_drew K.out) 10 rfl; have pc11 := has_cell (has_drew K.out) 11 rfl; have pc12 := has_cell (has_drew K.out) 12 rfl
      have nc0 := has_cell (has_drew K0.out) 0 rfl; have nc1 := has_cell (has_drew K0.out) 1 rfl; have nc2 := has_cell (has_drew K0.out) 2 rfl; have nc3 := has_cell (has_drew K0.out) 3 rfl; have nc4 := has_cell (has_drew K0.out) 4 rfl; have nc5 := has_cell (has_drew K0.out) 5 rfl; have nc6 := has_cell (has_drew K0.out) 6 rfl; have nc7 := has_cell (has_drew K0.out) 7 rfl; have nc8 := has_cell (has_drew K0.out) 8 rfl; have nc9 := has_cell (has_drew K0.out) 9 rfl; have nc10 := has_cell (has_drew K0.out) 10 rfl; have nc11 := has_cell (has_drew K0.out) 11 rfl; have nc12 := has_cell (has_drew K0.out) 12 rfl; have nc13 := has_cell (has_drew K0.out) 13 rfl; have nc14 := has_cell (has_drew K0.out) 14 rfl
      have S0 : (fun W : World => (W.cell? ⟨w.heap.size + 1, 0, none⟩ = some (.int .i64 p.size) ∧ W.cell? ⟨w.heap.size + 1, 1, none⟩ = some (.int .i64 p.owner) ∧ W.cell? ⟨w.heap.size + 1, 2, none⟩ = some (.int .i64 p.site) ∧ W.cell? ⟨w.heap.size + 1, 3, none⟩ = some (.int .i64 p.stage) ∧ W.cell? ⟨w.heap.size + 1, 4, none⟩ = some (.int .i64 p.since) ∧ W.cell? ⟨w.heap.size + 1, 5, none⟩ = some (.int .i64 p.ext) ∧ W.cell? ⟨w.heap.size + 1, 6, none⟩ = some (.int .i64 p.ls) ∧ W.cell? ⟨w.heap.size + 1, 7, none⟩ = some (.int .i64 p.ln) ∧ W.cell? ⟨w.heap.size + 1, 8, none⟩ = some (.int .i64 p.lt) ∧ W.cell? ⟨w.heap.size + 1, 9, none⟩ = some (.int .i64 p.lp) ∧ W.cell? ⟨w.heap.size + 1, 10, none⟩ = some (.int .i64 p.lu) ∧ W.cell? ⟨w.heap.size + 1, 11, none⟩ = some (.int .i64 p.who) ∧ W.cell? ⟨w.heap.size + 1, 12, none⟩ = some (.int .i64 p.fee) ∧ W.cell? ⟨w.heap.size, 0, none⟩ = some (.int .i64 n.tm.keep) ∧ W.cell? ⟨w.heap.size, 1, none⟩ = some (.int .i64 n.tm.free) ∧ W.cell? ⟨w.heap.size, 2, none⟩ = some (.int .i64 n.tm.step) ∧ W.cell? ⟨w.heap.size, 3, none⟩ = some (.int .i64 n.tm.rate) ∧ W.cell? ⟨w.heap.size, 4, none⟩ = some (.int .i64 n.tm.cap) ∧ W.cell? ⟨w.heap.size, 5, none⟩ = some (.int .i64 n.tm.longer) ∧ W.cell? ⟨w.heap.size, 6, none⟩ = some (.int .i64 n.tm.price) ∧ W.cell? ⟨w.heap.size, 7, none⟩ = some (.int .i64 n.tm.most) ∧ W.cell? ⟨w.heap.size, 8, none⟩ = some (.int .i64 n.room) ∧ W.cell? ⟨w.heap.size, 9, none⟩ = some (.int .i64 n.secret) ∧ W.cell? ⟨w.heap.size, 10, none⟩ = some (.int .i64 n.now) ∧ W.cell? ⟨w.heap.size, 11, none⟩ = some (.slice n.AS n.st.length n.cS) ∧ W.cell? ⟨w.heap.size, 12, none⟩ = some (.slice n.AP n.pc.length n.cP) ∧ W.cell? ⟨w.heap.size, 13, none⟩ = some (.slice n.AG n.gr.length n.cG) ∧ W.cell? ⟨w.heap.size, 14, none⟩ = some (.slice n.AJ n.jr.length n.cJ)) ∧ Below w2.heap.size w2 W) w2.drew := ⟨⟨pc0, pc1, pc2, pc3, pc4, pc5, pc6, pc7, pc8, pc9, pc10, pc11, pc12, nc0, nc1, nc2, nc3, nc4, nc5, nc6, nc7, nc8, nc9, nc10, nc11, nc12, nc13, nc14⟩, (Below.refl _ _).drew⟩
      clear pc0 pc1 pc2 pc3 pc4 pc5 pc6 pc7 pc8 pc9 pc10 pc11 pc12 nc0 nc1 nc2 nc3 nc4 nc5 nc6 nc7 nc8 nc9 nc10 nc11 nc12 nc13 nc14
      refine wp_region_held_drew (S := (fun W : World => (W.cell? ⟨w.heap.size + 1, 0, none⟩ = some (.int .i64 p.size) ∧ W.cell? ⟨w.heap.size + 1, 1, none⟩ = some (.int .i64 p.owner) ∧ W.cell? ⟨w.heap.size + 1, 2, none⟩ = some (.int .i64 p.site) ∧ W.cell? ⟨w.heap.size + 1, 3, none⟩ = some (.int .i64 p.stage) ∧ W.cell? ⟨w.heap.size + 1, 4, none⟩ = some (.int .i64 p.since) ∧ W.cell? ⟨w.heap.size + 1, 5, none⟩ = some (.int .i64 p.ext) ∧ W.cell? ⟨w.heap.size + 1, 6, none⟩ = some (.int .i64 p.ls) ∧ W.cell? ⟨w.heap.size + 1, 7, none⟩ = some (.int .i64 p.ln) ∧ W.cell? ⟨w.heap.size + 1, 8, none⟩ = some (.int .i64 p.lt) ∧ W.cell? ⟨w.heap.size + 1, 9, none⟩ = some (.int .i64 p.lp) ∧ W.cell? ⟨w.heap.size + 1, 10, none⟩ = some (.int .i64 p.lu) ∧ W.cell? ⟨w.heap.size + 1, 11, none⟩ = some (.int .i64 p.who) ∧ W.cell? ⟨w.heap.size + 1, 12, none⟩ = some (.int .i64 p.fee) ∧ W.cell? ⟨w.heap.size, 0, none⟩ = some (.int .i64 n.tm.keep) ∧ W.cell? ⟨w.heap.size, 1, none⟩ = some (.int .i64 n.tm.free) ∧ W.cell? ⟨w.heap.size, 2, none⟩ = some (.int .i64 n.tm.step) ∧ W.cell? ⟨w.heap.size, 3, none⟩ = some (.int .i64 n.tm.rate) ∧ W.cell? ⟨w.heap.size, 4, none⟩ = some (.int .i64 n.tm.cap) ∧ W.cell? ⟨w.heap.size, 5, none⟩ = some (.int .i64 n.tm.longer) ∧ W.cell? ⟨w.heap.size, 6, none⟩ = some (.int .i64 n.tm.price) ∧ W.cell? ⟨w.heap.size, 7, none⟩ = some (.int .i64 n.tm.most) ∧ W.cell? ⟨w.heap.size, 8, none⟩ = some (.int .i64 n.room) ∧ W.cell? ⟨w.heap.size, 9, none⟩ = some (.int .i64 n.secret) ∧ W.cell? ⟨w.heap.size, 10, none⟩ = some (.int .i64 n.now) ∧ W.cell? ⟨w.heap.size, 11, none⟩ = some (.slice n.AS n.st.length n.cS) ∧ W.cell? ⟨w.heap.size, 12, none⟩ = some (.slice n.AP n.pc.length n.cP) ∧ W.cell? ⟨w.heap.size, 13, none⟩ = some (.slice n.AG n.gr.length n.cG) ∧ W.cell? ⟨w.heap.size, 14, none⟩ = some (.slice n.AJ n.jr.length n.cJ)) ∧ Below w2.heap.size w2 W)) (by kernel_rfl) S0 (fun _ => ?_)
      refine tk9 (i := 0) (some 81) (.pointer (some ⟨w.heap.size + 1, 4, none⟩)) rfl rfl (fun W hSw => ?_) S0 ?_
      · (try dsimp only at hSw); go_simp <;> with_reducible rfl
      try simp only [Act.put, l9a, l9z, l9s]
      refine tk9 (i := 1) (some 82) (.int .i64 p.since) rfl rfl (fun W hSw => ?_) S0 ?_
      · (try dsimp only at hSw); go_simp <;> with_reducible rfl
      try simp only [Act.put, l9a, l9z, l9s]
      refine tk9 (i := 2) (some 83) (.pointer (some ⟨w.heap.size, 10, none⟩)) rfl rfl (fun W hSw => ?_) S0 ?_
      · (try dsimp only at hSw); go_simp <;> with_reducible rfl
      try simp only [Act.put, l9a, l9z, l9s]
      refine tk9 (i := 3) (some 84) (.int .i64 n.now) rfl rfl (fun W hSw => ?_) S0 ?_
      · (try dsimp only at hSw); go_simp <;> with_reducible rfl
      try simp only [Act.put, l9a, l9z, l9s]
      refine wpAnyH_ready (rs := [4]) (by kernel_rfl) (by simp) ?_
      refine AllReadyH.cons rfl (fun K hK => ?_) AllReadyH.nil
      go_simp
      go_at_call 33
      refine (inR_any _ p.since 0 n.now).mono ?_
      rintro e wa ⟨rfl, hw8⟩; rw [hw8]; clear hw8 wa
      rw [h1]
      go_wp2_with fail
      refine hK.out _ _ S0 (fun _ => ?_)
      clear hK K
      try simp only [Act.put, l9a, l9z, l9s]
      refine tk9 (i := 5) (some 86) (.bool true) rfl rfl (fun W hSw => ?_) S0 ?_
      · (try dsimp only at hSw); go_simp <;> with_reducible rfl
      try simp only [Act.put, l9a, l9z, l9s]
      refine tk9 (i := 6) (some 87) (.bool true) rfl rfl (fun W hSw => ?_) S0 ?_
      · (try dsimp only at hSw); go_simp <;> with_reducible rfl
      try simp only [Act.put, l9a, l9z, l9s]
      refine sk9 (i := 7) (some 88) rfl rfl S0 ?_
      try simp only [Act.put, l9a, l9z, l9s]
      refine sk9 (i := 8) (some 89) rfl rfl S0 ?_
      try simp only [Act.put, l9a, l9z, l9s]
      refine sk9 (i := 9) (some 90) rfl rfl S0 ?_
      try simp only [Act.put, l9a, l9z, l9s]
      refine sk9 (i := 10) (some 91) rfl rfl S0 ?_
      try simp only [Act.put, l9a, l9z, l9s]
      refine sk9 (i := 11) (some 92) rfl rfl S0 ?_
      try simp only [Act.put, l9a, l9z, l9s]
      refine sk9 (i := 12) (some 93) rfl rfl S0 ?_
      try simp only [Act.put, l9a, l9z, l9s]
      refine sk9 (i := 13) (some 94) rfl rfl S0 ?_
      try simp only [Act.put, l9a, l9z, l9s]
      refine tk9 (i := 14) (some 95) (.bool true) rfl rfl (fun W hSw => ?_) S0 ?_
      · (try dsimp only at hSw); go_simp <;> with_reducible rfl
      try simp only [Act.put, l9a, l9z, l9s]
      refine tk9 (i := 15) (some 96) (.bool true) rfl rfl (fun W hSw => ?_) S0 ?_
      · (try dsimp only at hSw); go_simp <;> with_reducible rfl
      try simp only [Act.put, l9a, l9z, l9s]
      refine sk9 (i := 16) (some 97) rfl rfl S0 ?_
      try simp only [Act.put, l9a, l9z, l9s]
      refine sk9 (i := 17) (some 98) rfl rfl S0 ?_
      try simp only [Act.put, l9a, l9z, l9s]
      refine sk9 (i := 18) (some 99) rfl rfl S0 ?_
      try simp only [Act.put, l9a, l9z, l9s]
      refine sk9 (i := 19) (some 100) rfl rfl S0 ?_
      try simp only [Act.put, l9a, l9z, l9s]
      refine tk9 (i := 20) (some 101) (.bool true) rfl rfl (fun W hSw => ?_) S0 ?_
      · (try dsimp only at hSw); go_simp <;> with_reducible rfl
      try simp only [Act.put, l9a, l9z, l9s]
      refine tk9 (i := 21) (some 102) (.bool true) rfl rfl (fun W hSw => ?_) S0 ?_
      · (try dsimp only at hSw); go_simp <;> with_reducible rfl
      try simp only [Act.put, l9a, l9z, l9s]
      refine sk9 (i := 22) (some 103) rfl rfl S0 ?_
      try simp only [Act.put, l9a, l9z, l9s]
      refine sk9 (i := 23) (some 104) rfl rfl S0 ?_
      try simp only [Act.put, l9a, l9z, l9s]
      refine sk9 (i := 24) (some 105) rfl rfl S0 ?_
      try simp only [Act.put, l9a, l9z, l9s]
      refine sk9 (i := 25) (some 106) rfl rfl S0 ?_
      try simp only [Act.put, l9a, l9z, l9s]
      refine sk9 (i := 26) (some 107) rfl rfl S0 ?_
      try simp only [Act.put, l9a, l9z, l9s]
      refine sk9 (i := 27) (some 108) rfl rfl S0 ?_
      try simp only [Act.put, l9a, l9z, l9s]
      refine sk9 (i := 28) (some 109) rfl rfl S0 ?_
      try simp only [Act.put, l9a, l9z, l9s]
      refine sk9 (i := 29) (some 110) rfl rfl S0 ?_
      try simp only [Act.put, l9a, l9z, l9s]
      refine tk9 (i := 30) (some 111) (.bool true) rfl rfl (fun W hSw => ?_) S0 ?_
      · (try dsimp only at hSw); go_simp <;> with_reducible rfl
      try simp only [Act.put, l9a, l9z, l9s]
      refine wpAnyH_done (by kernel_rfl) ?_ _
      have hbreg : Below w2.heap.size w2 w2.drew := S0.2
      clear S0
      go_wp2_with fail
      go_ret
      exact ⟨rbool (by rw [HP2.out, HSV.out]; simp [h1]), bthen BB.out hbreg⟩
    cases h2 : inR p.ext 0 n.tm.most
    · skip
      have hlp := has_lt K.out; have hln := has_lt K0.out
      have pc0 := has_cell (has_drew K.out) 0 rfl; have pc1 := has_cell (has_drew K.out) 1 rfl; have pc2 := has_cell (has_drew K.out) 2 rfl; have pc3 := has_cell (has_drew K.out) 3 rfl; have pc4 := has_cell (has_drew K.out) 4 rfl; have pc5 := has_cell (has_drew K.out) 5 rfl; have pc6 := has_cell (has_drew K.out) 6 rfl; have pc7 := has_cell (has_drew K.out) 7 rfl; have pc8 := has_cell (has_drew K.out) 8 rfl; have pc9 := has_cell (has_drew K.out) 9 rfl; have pc10 := has_cell (has_drew K.out) 10 rfl; have pc11 := has_cell (has_drew K.out) 11 rfl; have pc12 := has_cell (has_drew K.out) 12 rfl
      have nc0 := has_cell (has_drew K0.out) 0 rfl; have nc1 := has_cell (has_drew K0.out) 1 rfl; have nc2 := has_cell (has_drew K0.out) 2 rfl; have nc3 := has_cell (has_drew K0.out) 3 rfl; have nc4 := has_cell (has_drew K0.out) 4 rfl; have nc5 := has_cell (has_drew K0.out) 5 rfl; have nc6 := has_cell (has_drew K0.out) 6 rfl; have nc7 := has_cell (has_drew K0.out) 7 rfl; have nc8 := has_cell (has_drew K0.out) 8 rfl; have nc9 := has_cell (has_drew K0.out) 9 rfl; have nc10 := has_cell (has_drew K0.out) 10 rfl; have nc11 := has_cell (has_drew K0.out) 11 rfl; have nc12 := has_cell (has_drew K0.out) 12 rfl; have nc13 := has_cell (has_drew K0.out) 13 rfl; have nc14 := has_cell (has_drew K0.out) 14 rfl
      have S0 : (fun W : World => (W.cell? ⟨w.heap.size + 1, 0, none⟩ = some (.int .i64 p.size) ∧ W.cell? ⟨w.heap.size + 1, 1, none⟩ = some (.int .i64 p.owner) ∧ W.cell? ⟨w.heap.size + 1, 2, none⟩ = some (.int .i64 p.site) ∧ W.cell? ⟨w.heap.size + 1, 3, none⟩ = some (.int .i64 p.stage) ∧ W.cell? ⟨w.heap.size + 1, 4, none⟩ = some (.int .i64 p.since) ∧ W.cell? ⟨w.heap.size + 1, 5, none⟩ = some (.int .i64 p.ext) ∧ W.cell? ⟨w.heap.size + 1, 6, none⟩ = some (.int .i64 p.ls) ∧ W.cell? ⟨w.heap.size + 1, 7, none⟩ = some (.int .i64 p.ln) ∧ W.cell? ⟨w.heap.size + 1, 8, none⟩ = some (.int .i64 p.lt) ∧ W.cell? ⟨w.heap.size + 1, 9, none⟩ = some (.int .i64 p.lp) ∧ W.cell? ⟨w.heap.size + 1, 10, none⟩ = some (.int .i64 p.lu) ∧ W.cell? ⟨w.heap.size + 1, 11, none⟩ = some (.int .i64 p.who) ∧ W.cell? ⟨w.heap.size + 1, 12, none⟩ = some (.int .i64 p.fee) ∧ W.cell? ⟨w.heap.size, 0, none⟩ = some (.int .i64 n.tm.keep) ∧ W.cell? ⟨w.heap.size, 1, none⟩ = some (.int .i64 n.tm.free) ∧ W.cell? ⟨w.heap.size, 2, none⟩ = some (.int .i64 n.tm.step) ∧ W.cell? ⟨w.heap.size, 3, none⟩ = some (.int .i64 n.tm.rate) ∧ W.cell? ⟨w.heap.size, 4, none⟩ = some (.int .i64 n.tm.cap) ∧ W.cell? ⟨w.heap.size, 5, none⟩ = some (.int .i64 n.tm.longer) ∧ W.cell? ⟨w.heap.size, 6, none⟩ = some (.int .i64 n.tm.price) ∧ W.cell? ⟨w.heap.size, 7, none⟩ = some (.int .i64 n.tm.most) ∧ W.cell? ⟨w.heap.size, 8, none⟩ = some (.int .i64 n.room) ∧ W.cell? ⟨w.heap.size, 9, none⟩ = some (.int .i64 n.secret) ∧ W.cell? ⟨w.heap.size, 10, none⟩ = some (.int .i64 n.now) ∧ W.cell? ⟨w.heap.size, 11, none⟩ = some (.slice n.AS n.st.length n.cS) ∧ W.cell? ⟨w.heap.size, 12, none⟩ = some (.slice n.AP n.pc.length n.cP) ∧ W.cell? ⟨w.heap.size, 13, none⟩ = some (.slice n.AG n.gr.length n.cG) ∧ W.cell? ⟨w.heap.size, 14, none⟩ = some (.slice n.AJ n.jr.length n.cJ)) ∧ Below w2.heap.size w2 W) w2.drew := ⟨⟨pc0, pc1, pc2, pc3, pc4, pc5, pc6, pc7, pc8, pc9, pc10, pc11, pc12, nc0, nc1, nc2, nc3, nc4, nc5, nc6, nc7, nc8, nc9, nc10, nc11, nc12, nc13, nc14⟩, (Below.refl _ _).drew⟩
      clear pc0 pc1 pc2 pc3 pc4 pc5 pc6 pc7 pc8 pc9 pc10 pc11 pc12 nc0 nc1 nc2 nc3 nc4 nc5 nc6 nc7 nc8 nc9 nc10 nc11 nc12 nc13 nc14
      refine wp_region_held_drew (S := (fun W : World => (W.cell? ⟨w.heap.size + 1, 0, none⟩ = some (.int .i64 p.size) ∧ W.cell? ⟨w.heap.size + 1, 1, none⟩ = some (.int .i64 p.owner) ∧ W.cell? ⟨w.heap.size + 1, 2, none⟩ = some (.int .i64 p.site) ∧ W.cell? ⟨w.heap.size + 1, 3, none⟩ = some (.int .i64 p.stage) ∧ W.cell? ⟨w.heap.size + 1, 4, none⟩ = some (.int .i64 p.since) ∧ W.cell? ⟨w.heap.size + 1, 5, none⟩ = some (.int .i64 p.ext) ∧ W.cell? ⟨w.heap.size + 1, 6, none⟩ = some (.int .i64 p.ls) ∧ W.cell? ⟨w.heap.size + 1, 7, none⟩ = some (.int .i64 p.ln) ∧ W.cell? ⟨w.heap.size + 1, 8, none⟩ = some (.int .i64 p.lt) ∧ W.cell? ⟨w.heap.size + 1, 9, none⟩ = some (.int .i64 p.lp) ∧ W.cell? ⟨w.heap.size + 1, 10, none⟩ = some (.int .i64 p.lu) ∧ W.cell? ⟨w.heap.size + 1, 11, none⟩ = some (.int .i64 p.who) ∧ W.cell? ⟨w.heap.size + 1, 12, none⟩ = some (.int .i64 p.fee) ∧ W.cell? ⟨w.heap.size, 0, none⟩ = some (.int .i64 n.tm.keep) ∧ W.cell? ⟨w.heap.size, 1, none⟩ = some (.int .i64 n.tm.free) ∧ W.cell? ⟨w.heap.size, 2, none⟩ = some (.int .i64 n.tm.step) ∧ W.cell? ⟨w.heap.size, 3, none⟩ = some (.int .i64 n.tm.rate) ∧ W.cell? ⟨w.heap.size, 4, none⟩ = some (.int .i64 n.tm.cap) ∧ W.cell? ⟨w.heap.size, 5, none⟩ = some (.int .i64 n.tm.longer) ∧ W.cell? ⟨w.heap.size, 6, none⟩ = some (.int .i64 n.tm.price) ∧ W.cell? ⟨w.heap.size, 7, none⟩ = some (.int .i64 n.tm.most) ∧ W.cell? ⟨w.heap.size, 8, none⟩ = some (.int .i64 n.room) ∧ W.cell? ⟨w.heap.size, 9, none⟩ = some (.int .i64 n.secret) ∧ W.cell? ⟨w.heap.size, 10, none⟩ = some (.int .i64 n.now) ∧ W.cell? ⟨w.heap.size, 11, none⟩ = some (.slice n.AS n.st.length n.cS) ∧ W.cell? ⟨w.heap.size, 12, none⟩ = some (.slice n.AP n.pc.length n.cP) ∧ W.cell? ⟨w.heap.size, 13, none⟩ = some (.slice n.AG n.gr.length n.cG) ∧ W.cell? ⟨w.heap.size, 14, none⟩ = some (.slice n.AJ n.jr.length n.cJ)) ∧ Below w2.heap.size w2 W)) (by kernel_rfl) S0 (fun _ => ?_)
      refine tk9 (i := 0) (some 81) (.pointer (some ⟨w.heap.size + 1, 4, none⟩)) rfl rfl (fun W hSw => ?_) S0 ?_
      · (try dsimp only at hSw); go_simp <;> with_reducible rfl
      try simp only [Act.put, l9a, l9z, l9s]
      refine tk9 (i := 1) (some 82) (.int .i64 p.since) rfl rfl (fun W hSw => ?_) S0 ?_
      · (try dsimp only at hSw); go_simp <;> with_reducible rfl
      try simp only [Act.put, l9a, l9z, l9s]
      refine tk9 (i := 2) (some 83) (.pointer (some ⟨w.heap.size, 10, none⟩)) rfl rfl (fun W hSw => ?_) S0 ?_
      · (try dsimp only at hSw); go_simp <;> with_reducible rfl
      try simp only [Act.put, l9a, l9z, l9s]
      refine tk9 (i := 3) (some 84) (.int .i64 n.now) rfl rfl (fun W hSw => ?_) S0 ?_
      · (try dsimp only at hSw); go_simp <;> with_reducible rfl
      try simp only [Act.put, l9a, l9z, l9s]
      refine wpAnyH_ready (rs := [4]) (by kernel_rfl) (by simp) ?_
      refine AllReadyH.cons rfl (fun K hK => ?_) AllReadyH.nil
      go_simp
      go_at_call 33
      refine (inR_any _ p.since 0 n.now).mono ?_
      rintro e wa ⟨rfl, hw8⟩; rw [hw8]; clear hw8 wa
      rw [h1]
      go_wp2_with fail
      refine hK.out _ _ S0 (fun _ => ?_)
      clear hK K
      try simp only [Act.put, l9a, l9z, l9s]
      refine tk9 (i := 5) (some 86) (.bool false) rfl rfl (fun W hSw => ?_) S0 ?_
      · (try dsimp only at hSw); go_simp <;> with_reducible rfl
      try simp only [Act.put, l9a, l9z, l9s]
      refine tk9 (i := 6) (some 87) (.bool false) rfl rfl (fun W hSw => ?_) S0 ?_
      · (try dsimp only at hSw); go_simp <;> with_reducible rfl
      try simp only [Act.put, l9a, l9z, l9s]
      refine tk9 (i := 7) (some 88) (.pointer (some ⟨w.heap.size + 1, 5, none⟩)) rfl rfl (fun W hSw => ?_) S0 ?_
      · (try dsimp only at hSw); go_simp <;> with_reducible rfl
      try simp only [Act.put, l9a, l9z, l9s]
      refine tk9 (i := 8) (some 89) (.int .i64 p.ext) rfl rfl (fun W hSw => ?_) S0 ?_
      · (try dsimp only at hSw); go_simp <;> with_reducible rfl
      try simp only [Act.put, l9a, l9z, l9s]
      refine tk9 (i := 9) (some 90) (.pointer (some ⟨w.heap.size, 0, none⟩)) rfl rfl (fun W hSw => ?_) S0 ?_
      · (try dsimp only at hSw); go_simp <;> with_reducible rfl
      try simp only [Act.put, l9a, l9z, l9s]
      refine tk9 (i := 10) (some 91) (.pointer (some ⟨w.heap.size, 7, none⟩)) rfl rfl (fun W hSw => ?_) S0 ?_
      · (try dsimp only at hSw); go_simp <;> with_reducible rfl
      try simp only [Act.put, l9a, l9z, l9s]
      refine tk9 (i := 11) (some 92) (.int .i64 n.tm.most) rfl rfl (fun W hSw => ?_) S0 ?_
      · (try dsimp only at hSw); go_simp <;> with_reducible rfl
      try simp only [Act.put, l9a, l9z, l9s]
      refine wpAnyH_ready (rs := [12]) (by kernel_rfl) (by simp) ?_
      refine AllReadyH.cons rfl (fun K hK => ?_) AllReadyH.nil
      go_simp
      go_at_call 33
      refine (inR_any _ p.ext 0 n.tm.most).mono ?_
      rintro e wb ⟨rfl, hw8⟩; rw [hw8]; clear hw8 wb
      rw [h2]
      go_wp2_with fail
      refine hK.out _ _ S0 (fun _ => ?_)
      clear hK K
      try simp only [Act.put, l9a, l9z, l9s]
      refine tk9 (i := 13) (some 94) (.bool true) rfl rfl (fun W hSw => ?_) S0 ?_
      · (try dsimp only at hSw); go_simp <;> with_reducible rfl
      try simp only [Act.put, l9a, l9z, l9s]
      refine tk9 (i := 14) (some 95) (.bool true) rfl rfl (fun W hSw => ?_) S0 ?_
      · (try dsimp only at hSw); go_simp <;> with_reducible rfl
      try simp only [Act.put, l9a, l9z, l9s]
      refine tk9 (i := 15) (some 96) (.bool true) rfl rfl (fun W hSw => ?_) S0 ?_
      · (try dsimp only at hSw); go_simp <;> with_reducible rfl
      try simp only [Act.put, l9a, l9z, l9s]
      refine sk9 (i := 16) (some 97) rfl rfl S0 ?_
      try simp only [Act.put, l9a, l9z, l9s]
      refine sk9 (i := 17) (some 98) rfl rfl S0 ?_
      try simp only [Act.put, l9a, l9z, l9s]
      refine sk9 (i := 18) (some 99) rfl rfl S0 ?_
      try simp only [Act.put, l9a, l9z, l9s]
      refine sk9 (i := 19) (some 100) rfl rfl S0 ?_
      try simp only [Act.put, l9a, l9z, l9s]
      refine tk9 (i := 20) (some 101) (.bool true) rfl rfl (fun W hSw => ?_) S0 ?_
      · (try dsimp only at hSw); go_simp <;> with_reducible rfl
      try simp only [Act.put, l9a, l9z, l9s]
      refine tk9 (i := 21) (some 102) (.bool true) rfl rfl (fun W hSw => ?_) S0 ?_
      · (try dsimp only at hSw); go_simp <;> with_reducible rfl
      try simp only [Act.put, l9a, l9z, l9s]
      refine sk9 (i := 22) (some 103) rfl rfl S0 ?_
      try simp only [Act.put, l9a, l9z, l9s]
      refine sk9 (i := 23) (some 104) rfl rfl S0 ?_
      try simp only [Act.put, l9a, l9z, l9s]
      refine sk9 (i := 24) (some 105) rfl rfl S0 ?_
      try simp only [Act.put, l9a, l9z, l9s]
      refine sk9 (i := 25) (some 106) rfl rfl S0 ?_
      try simp only [Act.put, l9a, l9z, l9s]
      refine sk9 (i := 26) (some 107) rfl rfl S0 ?_
      try simp only [Act.put, l9a, l9z, l9s]
      refine sk9 (i := 27) (some 108) rfl rfl S0 ?_
      try simp only [Act.put, l9a, l9z, l9s]
      refine sk9 (i := 28) (some 109) rfl rfl S0 ?_
      try simp only [Act.put, l9a, l9z, l9s]
      refine sk9 (i := 29) (some 110) rfl rfl S0 ?_
      try simp only [Act.put, l9a, l9z, l9s]
      refine tk9 (i := 30) (some 111) (.bool true) rfl rfl (fun W hSw => ?_) S0 ?_
      · (try dsimp only at hSw); go_simp <;> with_reducible rfl
      try simp only [Act.put, l9a, l9z, l9s]
      refine wpAnyH_done (by kernel_rfl) ?_ _
      have hbreg : Below w2.heap.size w2 w2.drew := S0.2
      clear S0
      go_wp2_with fail
      go_ret
      exact ⟨rbool (by rw [HP2.out, HSV.out]; simp [h2]), bthen BB.out hbreg⟩
    cases h3 : lockB p.ls p.ln p.lt p.lp p.lu
    · skip
      have hlp := has_lt K.out; have hln := has_lt K0.out
      have pc0 := has_cell (has_drew K.out) 0 rfl; have pc1 := has_cell (has_drew K.out) 1 rfl; have pc2 := has_cell (has_drew K.out) 2 rfl; have pc3 := has_cell (has_drew K.out) 3 rfl; have pc4 := has_cell (has_drew K.out) 4 rfl; have pc5 := has_cell (has_drew K.out) 5 rfl; have pc6 := has_cell (has_drew K.out) 6 rfl; have pc7 := has_cell (has_drew K.out) 7 rfl; have pc8 := has_cell (has_drew K.out) 8 rfl; have pc9 := has_cell (has_drew K.out) 9 rfl; have pc10 := has_cell (has_drew K.out) 10 rfl; have pc11 := has_cell (has_drew K.out) 11 rfl; have pc12 := has_cell (has_drew K.out) 12 rfl
      have nc0 := has_cell (has_drew K0.out) 0 rfl; have nc1 := has_cell (has_drew K0.out) 1 rfl; have nc2 := has_cell (has_drew K0.out) 2 rfl; have nc3 := has_cell (has_drew K0.out) 3 rfl; have nc4 := has_cell (has_drew K0.out) 4 rfl; have nc5 := has_cell (has_drew K0.out) 5 rfl; have nc6 := has_cell (has_drew K0.out) 6 rfl; have nc7 := has_cell (has_drew K0.out) 7 rfl; have nc8 := has_cell (has_drew K0.out) 8 rfl; have nc9 := has_cell (has_drew K0.out) 9 rfl; have nc10 := has_cell (has_drew K0.out) 10 rfl; have nc11 := has_cell (has_drew K0.out) 11 rfl; have nc12 := has_cell (has_drew K0.out) 12 rfl; have nc13 := has_cell (has_drew K0.out) 13 rfl; have nc14 := has_cell (has_drew K0.out) 14 rfl
      have S0 : (fun W : World => (W.cell? ⟨w.heap.size + 1, 0, none⟩ = some (.int .i64 p.size) ∧ W.cell? ⟨w.heap.size + 1, 1, none⟩ = some (.int .i64 p.owner) ∧ W.cell? ⟨w.heap.size + 1, 2, none⟩ = some (.int .i64 p.site) ∧ W.cell? ⟨w.heap.size + 1, 3, none⟩ = some (.int .i64 p.stage) ∧ W.cell? ⟨w.heap.size + 1, 4, none⟩ = some (.int .i64 p.since) ∧ W.cell? ⟨w.heap.size + 1, 5, none⟩ = some (.int .i64 p.ext) ∧ W.cell? ⟨w.heap.size + 1, 6, none⟩ = some (.int .i64 p.ls) ∧ W.cell? ⟨w.heap.size + 1, 7, none⟩ = some (.int .i64 p.ln) ∧ W.cell? ⟨w.heap.size + 1, 8, none⟩ = some (.int .i64 p.lt) ∧ W.cell? ⟨w.heap.size + 1, 9, none⟩ = some (.int .i64 p.lp) ∧ W.cell? ⟨w.heap.size + 1, 10, none⟩ = some (.int .i64 p.lu) ∧ W.cell? ⟨w.heap.size + 1, 11, none⟩ = some (.int .i64 p.who) ∧ W.cell? ⟨w.heap.size + 1, 12, none⟩ = some (.int .i64 p.fee) ∧ W.cell? ⟨w.heap.size, 0, none⟩ = some (.int .i64 n.tm.keep) ∧ W.cell? ⟨w.heap.size, 1, none⟩ = some (.int .i64 n.tm.free) ∧ W.cell? ⟨w.heap.size, 2, none⟩ = some (.int .i64 n.tm.step) ∧ W.cell? ⟨w.heap.size, 3, none⟩ = some (.int .i64 n.tm.rate) ∧ W.cell? ⟨w.heap.size, 4, none⟩ = some (.int .i64 n.tm.cap) ∧ W.cell? ⟨w.heap.size, 5, none⟩ = some (.int .i64 n.tm.longer) ∧ W.cell? ⟨w.heap.size, 6, none⟩ = some (.int .i64 n.tm.price) ∧ W.cell? ⟨w.heap.size, 7, none⟩ = some (.int .i64 n.tm.most) ∧ W.cell? ⟨w.heap.size, 8, none⟩ = some (.int .i64 n.room) ∧ W.cell? ⟨w.heap.size, 9, none⟩ = some (.int .i64 n.secret) ∧ W.cell? ⟨w.heap.size, 10, none⟩ = some (.int .i64 n.now) ∧ W.cell? ⟨w.heap.size, 11, none⟩ = some (.slice n.AS n.st.length n.cS) ∧ W.cell? ⟨w.heap.size, 12, none⟩ = some (.slice n.AP n.pc.length n.cP) ∧ W.cell? ⟨w.heap.size, 13, none⟩ = some (.slice n.AG n.gr.length n.cG) ∧ W.cell? ⟨w.heap.size, 14, none⟩ = some (.slice n.AJ n.jr.length n.cJ)) ∧ Below w2.heap.size w2 W) w2.drew := ⟨⟨pc0, pc1, pc2, pc3, pc4, pc5, pc6, pc7, pc8, pc9, pc10, pc11, pc12, nc0, nc1, nc2, nc3, nc4, nc5, nc6, nc7, nc8, nc9, nc10, nc11, nc12, nc13, nc14⟩, (Below.refl _ _).drew⟩
      clear pc0 pc1 pc2 pc3 pc4 pc5 pc6 pc7 pc8 pc9 pc10 pc11 pc12 nc0 nc1 nc2 nc3 nc4 nc5 nc6 nc7 nc8 nc9 nc10 nc11 nc12 nc13 nc14
      refine wp_region_held_drew (S := (fun W : World => (W.cell? ⟨w.heap.size + 1, 0, none⟩ = some (.int .i64 p.size) ∧ W.cell? ⟨w.heap.size + 1, 1, none⟩ = some (.int .i64 p.owner) ∧ W.cell? ⟨w.heap.size + 1, 2, none⟩ = some (.int .i64 p.site) ∧ W.cell? ⟨w.heap.size + 1, 3, none⟩ = some (.int .i64 p.stage) ∧ W.cell? ⟨w.heap.size + 1, 4, none⟩ = some (.int .i64 p.since) ∧ W.cell? ⟨w.heap.size + 1, 5, none⟩ = some (.int .i64 p.ext) ∧ W.cell? ⟨w.heap.size + 1, 6, none⟩ = some (.int .i64 p.ls) ∧ W.cell? ⟨w.heap.size + 1, 7, none⟩ = some (.int .i64 p.ln) ∧ W.cell? ⟨w.heap.size + 1, 8, none⟩ = some (.int .i64 p.lt) ∧ W.cell? ⟨w.heap.size + 1, 9, none⟩ = some (.int .i64 p.lp) ∧ W.cell? ⟨w.heap.size + 1, 10, none⟩ = some (.int .i64 p.lu) ∧ W.cell? ⟨w.heap.size + 1, 11, none⟩ = some (.int .i64 p.who) ∧ W.cell? ⟨w.heap.size + 1, 12, none⟩ = some (.int .i64 p.fee) ∧ W.cell? ⟨w.heap.size, 0, none⟩ = some (.int .i64 n.tm.keep) ∧ W.cell? ⟨w.heap.size, 1, none⟩ = some (.int .i64 n.tm.free) ∧ W.cell? ⟨w.heap.size, 2, none⟩ = some (.int .i64 n.tm.step) ∧ W.cell? ⟨w.heap.size, 3, none⟩ = some (.int .i64 n.tm.rate) ∧ W.cell? ⟨w.heap.size, 4, none⟩ = some (.int .i64 n.tm.cap) ∧ W.cell? ⟨w.heap.size, 5, none⟩ = some (.int .i64 n.tm.longer) ∧ W.cell? ⟨w.heap.size, 6, none⟩ = some (.int .i64 n.tm.price) ∧ W.cell? ⟨w.heap.size, 7, none⟩ = some (.int .i64 n.tm.most) ∧ W.cell? ⟨w.heap.size, 8, none⟩ = some (.int .i64 n.room) ∧ W.cell? ⟨w.heap.size, 9, none⟩ = some (.int .i64 n.secret) ∧ W.cell? ⟨w.heap.size, 10, none⟩ = some (.int .i64 n.now) ∧ W.cell? ⟨w.heap.size, 11, none⟩ = some (.slice n.AS n.st.length n.cS) ∧ W.cell? ⟨w.heap.size, 12, none⟩ = some (.slice n.AP n.pc.length n.cP) ∧ W.cell? ⟨w.heap.size, 13, none⟩ = some (.slice n.AG n.gr.length n.cG) ∧ W.cell? ⟨w.heap.size, 14, none⟩ = some (.slice n.AJ n.jr.length n.cJ)) ∧ Below w2.heap.size w2 W)) (by kernel_rfl) S0 (fun _ => ?_)
      refine tk9 (i := 0) (some 81) (.pointer (some ⟨w.heap.size + 1, 4, none⟩)) rfl rfl (fun W hSw => ?_) S0 ?_
      · (try dsimp only at hSw); go_simp <;> with_reducible rfl
      try simp only [Act.put, l9a, l9z, l9s]
      refine tk9 (i := 1) (some 82) (.int .i64 p.since) rfl rfl (fun W hSw => ?_) S0 ?_
      · (try dsimp only at hSw); go_simp <;> with_reducible rfl
      try simp only [Act.put, l9a, l9z, l9s]
      refine tk9 (i := 2) (some 83) (.pointer (some ⟨w.heap.size, 10, none⟩)) rfl rfl (fun W hSw => ?_) S0 ?_
      · (try dsimp only at hSw); go_simp <;> with_reducible rfl
      try simp only [Act.put, l9a, l9z, l9s]
      refine tk9 (i := 3) (some 84) (.int .i64 n.now) rfl rfl (fun W hSw => ?_) S0 ?_
      · (try dsimp only at hSw); go_simp <;> with_reducible rfl
      try simp only [Act.put, l9a, l9z, l9s]
      refine wpAnyH_ready (rs := [4]) (by kernel_rfl) (by simp) ?_
      refine AllReadyH.cons rfl (fun K hK => ?_) AllReadyH.nil
      go_simp
      go_at_call 33
      refine (inR_any _ p.since 0 n.now).mono ?_
      rintro e wa ⟨rfl, hw8⟩; rw [hw8]; clear hw8 wa
      rw [h1]
      go_wp2_with fail
      refine hK.out _ _ S0 (fun _ => ?_)
      clear hK K
      try simp only [Act.put, l9a, l9z, l9s]
      refine tk9 (i := 5) (some 86) (.bool false) rfl rfl (fun W hSw => ?_) S0 ?_
      · (try dsimp only at hSw); go_simp <;> with_reducible rfl
      try simp only [Act.put, l9a, l9z, l9s]
      refine tk9 (i := 6) (some 87) (.bool false) rfl rfl (fun W hSw => ?_) S0 ?_
      · (try dsimp only at hSw); go_simp <;> with_reducible rfl
      try simp only [Act.put, l9a, l9z, l9s]
      refine tk9 (i := 7) (some 88) (.pointer (some ⟨w.heap.size + 1, 5, none⟩)) rfl rfl (fun W hSw => ?_) S0 ?_
      · (try dsimp only at hSw); go_simp <;> with_reducible rfl
      try simp only [Act.put, l9a, l9z, l9s]
      refine tk9 (i := 8) (some 89) (.int .i64 p.ext) rfl rfl (fun W hSw => ?_) S0 ?_
      · (try dsimp only at hSw); go_simp <;> with_reducible rfl
      try simp only [Act.put, l9a, l9z, l9s]
      refine tk9 (i := 9) (some 90) (.pointer (some ⟨w.heap.size, 0, none⟩)) rfl rfl (fun W hSw => ?_) S0 ?_
      · (try dsimp only at hSw); go_simp <;> with_reducible rfl
      try simp only [Act.put, l9a, l9z, l9s]
      refine tk9 (i := 10) (some 91) (.pointer (some ⟨w.heap.size, 7, none⟩)) rfl rfl (fun W hSw => ?_) S0 ?_
      · (try dsimp only at hSw); go_simp <;> with_reducible rfl
      try simp only [Act.put, l9a, l9z, l9s]
      refine tk9 (i := 11) (some 92) (.int .i64 n.tm.most) rfl rfl (fun W hSw => ?_) S0 ?_
      · (try dsimp only at hSw); go_simp <;> with_reducible rfl
      try simp only [Act.put, l9a, l9z, l9s]
      refine wpAnyH_ready (rs := [12]) (by kernel_rfl) (by simp) ?_
      refine AllReadyH.cons rfl (fun K hK => ?_) AllReadyH.nil
      go_simp
      go_at_call 33
      refine (inR_any _ p.ext 0 n.tm.most).mono ?_
      rintro e wb ⟨rfl, hw8⟩; rw [hw8]; clear hw8 wb
      rw [h2]
      go_wp2_with fail
      refine hK.out _ _ S0 (fun _ => ?_)
      clear hK K
      try simp only [Act.put, l9a, l9z, l9s]
      refine tk9 (i := 13) (some 94) (.bool false) rfl rfl (fun W hSw => ?_) S0 ?_
      · (try dsimp only at hSw); go_simp <;> with_reducible rfl
      try simp only [Act.put, l9a, l9z, l9s]
      refine tk9 (i := 14) (some 95) (.bool false) rfl rfl (fun W hSw => ?_) S0 ?_
      · (try dsimp only at hSw); go_simp <;> with_reducible rfl
      try simp only [Act.put, l9a, l9z, l9s]
      refine tk9 (i := 15) (some 96) (.bool false) rfl rfl (fun W hSw => ?_) S0 ?_
      · (try dsimp only at hSw); go_simp <;> with_reducible rfl
      try simp only [Act.put, l9a, l9z, l9s]
      refine tk9 (i := 16) (some 97) (.pointer (some ⟨w.heap.size + 1, 6, none⟩)) rfl rfl (fun W hSw => ?_) S0 ?_
      · (try dsimp only at hSw); go_simp <;> with_reducible rfl
      try simp only [Act.put, l9a, l9z, l9s]
      refine tk9 (i := 17) (some 98) (.agg #[.int .i64 p.ls, .int .i64 p.ln, .int .i64 p.lt, .int .i64 p.lp, .int .i64 p.lu]) rfl rfl (fun W hSw => ?_) S0 ?_
      · (try dsimp only at hSw); go_simp <;> with_reducible rfl
      try simp only [Act.put, l9a, l9z, l9s]
      refine wpAnyH_ready (rs := [18]) (by kernel_rfl) (by simp) ?_
      refine AllReadyH.cons rfl (fun K hK => ?_) AllReadyH.nil
      go_simp
      go_at_call 67
      refine (lockS_any _ p.ls p.ln p.lt p.lp p.lu).mono ?_
      rintro e wc ⟨rfl, hb8⟩
      rw [h3]
      have hb9wc : Below w2.heap.size w2 wc := bthen ((Below.refl _ _).drew : Below w2.heap.size w2 w2.drew) hb8
      have Swc : (fun W : World => (W.cell? ⟨w.heap.size + 1, 0, none⟩ = some (.int .i64 p.size) ∧ W.cell? ⟨w.heap.size + 1, 1, none⟩ = some (.int .i64 p.owner) ∧ W.cell? ⟨w.heap.size + 1, 2, none⟩ = some (.int .i64 p.site) ∧ W.cell? ⟨w.heap.size + 1, 3, none⟩ = some (.int .i64 p.stage) ∧ W.cell? ⟨w.heap.size + 1, 4, none⟩ = some (.int .i64 p.since) ∧ W.cell? ⟨w.heap.size + 1, 5, none⟩ = some (.int .i64 p.ext) ∧ W.cell? ⟨w.heap.size + 1, 6, none⟩ = some (.int .i64 p.ls) ∧ W.cell? ⟨w.heap.size + 1, 7, none⟩ = some (.int .i64 p.ln) ∧ W.cell? ⟨w.heap.size + 1, 8, none⟩ = some (.int .i64 p.lt) ∧ W.cell? ⟨w.heap.size + 1, 9, none⟩ = some (.int .i64 p.lp) ∧ W.cell? ⟨w.heap.size + 1, 10, none⟩ = some (.int .i64 p.lu) ∧ W.cell? ⟨w.heap.size + 1, 11, none⟩ = some (.int .i64 p.who) ∧ W.cell? ⟨w.heap.size + 1, 12, none⟩ = some (.int .i64 p.fee) ∧ W.cell? ⟨w.heap.size, 0, none⟩ = some (.int .i64 n.tm.keep) ∧ W.cell? ⟨w.heap.size, 1, none⟩ = some (.int .i64 n.tm.free) ∧ W.cell? ⟨w.heap.size, 2, none⟩ = some (.int .i64 n.tm.step) ∧ W.cell? ⟨w.heap.size, 3, none⟩ = some (.int .i64 n.tm.rate) ∧ W.cell? ⟨w.heap.size, 4, none⟩ = some (.int .i64 n.tm.cap) ∧ W.cell? ⟨w.heap.size, 5, none⟩ = some (.int .i64 n.tm.longer) ∧ W.cell? ⟨w.heap.size, 6, none⟩ = some (.int .i64 n.tm.price) ∧ W.cell? ⟨w.heap.size, 7, none⟩ = some (.int .i64 n.tm.most) ∧ W.cell? ⟨w.heap.size, 8, none⟩ = some (.int .i64 n.room) ∧ W.cell? ⟨w.heap.size, 9, none⟩ = some (.int .i64 n.secret) ∧ W.cell? ⟨w.heap.size, 10, none⟩ = some (.int .i64 n.now) ∧ W.cell? ⟨w.heap.size, 11, none⟩ = some (.slice n.AS n.st.length n.cS) ∧ W.cell? ⟨w.heap.size, 12, none⟩ = some (.slice n.AP n.pc.length n.cP) ∧ W.cell? ⟨w.heap.size, 13, none⟩ = some (.slice n.AG n.gr.length n.cG) ∧ W.cell? ⟨w.heap.size, 14, none⟩ = some (.slice n.AJ n.jr.length n.cJ)) ∧ Below w2.heap.size w2 W) wc := ⟨⟨(bold hb9wc _ _ (by omega)).trans S0.1.1, (bold hb9wc _ _ (by omega)).trans S0.1.2.1, (bold hb9wc _ _ (by omega)).trans S0.1.2.2.1, (bold hb9wc _ _ (by omega)).trans S0.1.2.2.2.1, (bold hb9wc _ _ (by omega)).trans S0.1.2.2.2.2.1, (bold hb9wc _ _ (by omega)).trans S0.1.2.2.2.2.2.1, (bold hb9wc _ _ (by omega)).trans S0.1.2.2.2.2.2.2.1, (bold hb9wc _ _ (by omega)).trans S0.1.2.2.2.2.2.2.2.1, (bold hb9wc _ _ (by omega)).trans S0.1.2.2.2.2.2.2.2.2.1, (bold hb9wc _ _ (by omega)).trans S0.1.2.2.2.2.2.2.2.2.2.1, (bold hb9wc _ _ (by omega)).trans S0.1.2.2.2.2.2.2.2.2.2.2.1, (bold hb9wc _ _ (by omega)).trans S0.1.2.2.2.2.2.2.2.2.2.2.2.1, (bold hb9wc _ _ (by omega)).trans S0.1.2.2.2.2.2.2.2.2.2.2.2.2.1, (bold hb9wc _ _ (by omega)).trans S0.1.2.2.2.2.2.2.2.2.2.2.2.2.2.1, (bold hb9wc _ _ (by omega)).trans S0.1.2.2.2.2.2.2.2.2.2.2.2.2.2.2.1, (bold hb9wc _ _ (by omega)).trans S0.1.2.2.2.2.2.2.2.2.2.2.2.2.2.2.2.1, (bold hb9wc _ _ (by omega)).trans S0.1.2.2.2.2.2.2.2.2.2.2.2.2.2.2.2.2.1, (bold hb9wc _ _ (by omega)).trans S0.1.2.2.2.2.2.2.2.2.2.2.2.2.2.2.2.2.2.1, (bold hb9wc _ _ (by omega)).trans S0.1.2.2.2.2.2.2.2.2.2.2.2.2.2.2.2.2.2.2.1, (bold hb9wc _ _ (by omega)).trans S0.1.2.2.2.2.2.2.2.2.2.2.2.2.2.2.2.2.2.2.2.1, (bold hb9wc _ _ (by omega)).trans S0.1.2.2.2.2.2.2.2.2.2.2.2.2.2.2.2.2.2.2.2.2.1, (bold hb9wc _ _ (by omega)).trans S0.1.2.2.2.2.2.2.2.2.2.2.2.2.2.2.2.2.2.2.2.2.2.1, (bold hb9wc _ _ (by omega)).trans S0.1.2.2.2.2.2.2.2.2.2.2.2.2.2.2.2.2.2.2.2.2.2.2.1, (bold hb9wc _ _ (by omega)).trans S0.1.2.2.2.2.2.2.2.2.2.2.2.2.2.2.2.2.2.2.2.2.2.2.2.1, (bold hb9wc _ _ (by omega)).trans S0.1.2.2.2.2.2.2.2.2.2.2.2.2.2.2.2.2.2.2.2.2.2.2.2.2.1, (bold hb9wc _ _ (by omega)).trans S0.1.2.2.2.2.2.2.2.2.2.2.2.2.2.2.2.2.2.2.2.2.2.2.2.2.2.1, (bold hb9wc _ _ (by omega)).trans S0.1.2.2.2.2.2.2.2.2.2.2.2.2.2.2.2.2.2.2.2.2.2.2.2.2.2.2.1, (bold hb9wc _ _ (by omega)).trans S0.1.2.2.2.2.2.2.2.2.2.2.2.2.2.2.2.2.2.2.2.2.2.2.2.2.2.2.2⟩, hb9wc⟩
      clear hb8
      go_wp2_with fail
      refine hK.out _ _ Swc (fun _ => ?_)
      clear hK K
      try simp only [Act.put, l9a, l9z, l9s]
      refine tk9 (i := 19) (some 100) (.bool true) rfl rfl (fun W hSw => ?_) Swc ?_
      · (try dsimp only at hSw); go_simp <;> with_reducible rfl
      try simp only [Act.put, l9a, l9z, l9s]
      refine tk9 (i := 20) (some 101) (.bool true) rfl rfl (fun W hSw => ?_) Swc ?_
      · (try dsimp only at hSw); go_simp <;> with_reducible rfl
      try simp only [Act.put, l9a, l9z, l9s]
      refine tk9 (i := 21) (some 102) (.bool true) rfl rfl (fun W hSw => ?_) Swc ?_
      · (try dsimp only at hSw); go_simp <;> with_reducible rfl
      try simp only [Act.put, l9a, l9z, l9s]
      refine sk9 (i := 22) (some 103) rfl rfl Swc ?_
      try simp only [Act.put, l9a, l9z, l9s]
      refine sk9 (i := 23) (some 104) rfl rfl Swc ?_
      try simp only [Act.put, l9a, l9z, l9s]
      refine sk9 (i := 24) (some 105) rfl rfl Swc ?_
      try simp only [Act.put, l9a, l9z, l9s]
      refine sk9 (i := 25) (some 106) rfl rfl Swc ?_
      try simp only [Act.put, l9a, l9z, l9s]
      refine sk9 (i := 26) (some 107) rfl rfl Swc ?_
      try simp only [Act.put, l9a, l9z, l9s]
      refine sk9 (i := 27) (some 108) rfl rfl Swc ?_
      try simp only [Act.put, l9a, l9z, l9s]
      refine sk9 (i := 28) (some 109) rfl rfl Swc ?_
      try simp only [Act.put, l9a, l9z, l9s]
      refine sk9 (i := 29) (some 110) rfl rfl Swc ?_
      try simp only [Act.put, l9a, l9z, l9s]
      refine tk9 (i := 30) (some 111) (.bool true) rfl rfl (fun W hSw => ?_) Swc ?_
      · (try dsimp only at hSw); go_simp <;> with_reducible rfl
      try simp only [Act.put, l9a, l9z, l9s]
      refine wpAnyH_done (by kernel_rfl) ?_ _
      have hbreg : Below w2.heap.size w2 wc := Swc.2
      clear S0 Swc hb9wc
      go_wp2_with fail
      go_ret
      exact ⟨rbool (by rw [HP2.out, HSV.out]; simp [h3]), bthen BB.out hbreg⟩
    obtain ⟨sv, hsecr⟩ : ∃ v, secV n.secret ((k : Int) + 1) = v := ⟨_, rfl⟩
    have HSE := Lib.hid hsecr
    by_cases h4 : p.ls = sv
    · have f4 : (p.ls != sv) = false := by simpa using h4
      have g4 : (p.ls == sv) = true := by simpa using h4
      clear h4
      have hlp := has_lt K.out; have hln := has_lt K0.out
      have pc0 := has_cell (has_drew K.out) 0 rfl; have pc1 := has_cell (has_drew K.out) 1 rfl; have pc2 := has_cell (has_drew K.out) 2 rfl; have pc3 := has_cell (has_drew K.out) 3 rfl; have pc4 := has_cell (has_drew K.out) 4 rfl; have pc5 := has_cell (has_drew K.out) 5 rfl; have pc6 := has_cell (has_drew K.out) 6 rfl; have pc7 := has_cell (has_drew K.out) 7 rfl; have pc8 := has_cell (has_drew K.out) 8 rfl; have pc9 := has_cell (has_drew K.out) 9 rfl; have pc10 := has_cell (has_drew K.out) 10 rfl; have pc11 := has_cell (has_drew K.out) 11 rfl; have pc12 := has_cell (has_drew K.out) 12 rfl
      have nc0 := has_cell (has_drew K0.out) 0 rfl; have nc1 := has_cell (has_drew K0.out) 1 rfl; have nc2 := has_cell (has_drew K0.out) 2 rfl; have nc3 := has_cell (has_drew K0.out) 3 rfl; have nc4 := has_cell (has_drew K0.out) 4 rfl; have nc5 := has_cell (has_drew K0.out) 5 rfl; have nc6 := has_cell (has_drew K0.out) 6 rfl; have nc7 := has_cell (has_drew K0.out) 7 rfl; have nc8 := has_cell (has_drew K0.out) 8 rfl; have nc9 := has_cell (has_drew K0.out) 9 rfl; have nc10 := has_cell (has_drew K0.out) 10 rfl; have nc11 := has_cell (has_drew K0.out) 11 rfl; have nc12 := has_cell (has_drew K0.out) 12 rfl; have nc13 := has_cell (has_drew K0.out) 13 rfl; have nc14 := has_cell (has_drew K0.out) 14 rfl
      have S0 : (fun W : World => (W.cell? ⟨w.heap.size + 1, 0, none⟩ = some (.int .i64 p.size) ∧ W.cell? ⟨w.heap.size + 1, 1, none⟩ = some (.int .i64 p.owner) ∧ W.cell? ⟨w.heap.size + 1, 2, none⟩ = some (.int .i64 p.site) ∧ W.cell? ⟨w.heap.size + 1, 3, none⟩ = some (.int .i64 p.stage) ∧ W.cell? ⟨w.heap.size + 1, 4, none⟩ = some (.int .i64 p.since) ∧ W.cell? ⟨w.heap.size + 1, 5, none⟩ = some (.int .i64 p.ext) ∧ W.cell? ⟨w.heap.size + 1, 6, none⟩ = some (.int .i64 p.ls) ∧ W.cell? ⟨w.heap.size + 1, 7, none⟩ = some (.int .i64 p.ln) ∧ W.cell? ⟨w.heap.size + 1, 8, none⟩ = some (.int .i64 p.lt) ∧ W.cell? ⟨w.heap.size + 1, 9, none⟩ = some (.int .i64 p.lp) ∧ W.cell? ⟨w.heap.size + 1, 10, none⟩ = some (.int .i64 p.lu) ∧ W.cell? ⟨w.heap.size + 1, 11, none⟩ = some (.int .i64 p.who) ∧ W.cell? ⟨w.heap.size + 1, 12, none⟩ = some (.int .i64 p.fee) ∧ W.cell? ⟨w.heap.size, 0, none⟩ = some (.int .i64 n.tm.keep) ∧ W.cell? ⟨w.heap.size, 1, none⟩ = some (.int .i64 n.tm.free) ∧ W.cell? ⟨w.heap.size, 2, none⟩ = some (.int .i64 n.tm.step) ∧ W.cell? ⟨w.heap.size, 3, none⟩ = some (.int .i64 n.tm.rate) ∧ W.cell? ⟨w.heap.size, 4, none⟩ = some (.int .i64 n.tm.cap) ∧ W.cell? ⟨w.heap.size, 5, none⟩ = some (.int .i64 n.tm.longer) ∧ W.cell? ⟨w.heap.size, 6, none⟩ = some (.int .i64 n.tm.price) ∧ W.cell? ⟨w.heap.size, 7, none⟩ = some (.int .i64 n.tm.most) ∧ W.cell? ⟨w.heap.size, 8, none⟩ = some (.int .i64 n.room) ∧ W.cell? ⟨w.heap.size, 9, none⟩ = some (.int .i64 n.secret) ∧ W.cell? ⟨w.heap.size, 10, none⟩ = some (.int .i64 n.now) ∧ W.cell? ⟨w.heap.size, 11, none⟩ = some (.slice n.AS n.st.length n.cS) ∧ W.cell? ⟨w.heap.size, 12, none⟩ = some (.slice n.AP n.pc.length n.cP) ∧ W.cell? ⟨w.heap.size, 13, none⟩ = some (.slice n.AG n.gr.length n.cG) ∧ W.cell? ⟨w.heap.size, 14, none⟩ = some (.slice n.AJ n.jr.length n.cJ)) ∧ Below w2.heap.size w2 W) w2.drew := ⟨⟨pc0, pc1, pc2, pc3, pc4, pc5, pc6, pc7, pc8, pc9, pc10, pc11, pc12, nc0, nc1, nc2, nc3, nc4, nc5, nc6, nc7, nc8, nc9, nc10, nc11, nc12, nc13, nc14⟩, (Below.refl _ _).drew⟩
      clear pc0 pc1 pc2 pc3 pc4 pc5 pc6 pc7 pc8 pc9 pc10 pc11 pc12 nc0 nc1 nc2 nc3 nc4 nc5 nc6 nc7 nc8 nc9 nc10 nc11 nc12 nc13 nc14
      refine wp_region_held_drew (S := (fun W : World => (W.cell? ⟨w.heap.size + 1, 0, none⟩ = some (.int .i64 p.size) ∧ W.cell? ⟨w.heap.size + 1, 1, none⟩ = some (.int .i64 p.owner) ∧ W.cell? ⟨w.heap.size + 1, 2, none⟩ = some (.int .i64 p.site) ∧ W.cell? ⟨w.heap.size + 1, 3, none⟩ = some (.int .i64 p.stage) ∧ W.cell? ⟨w.heap.size + 1, 4, none⟩ = some (.int .i64 p.since) ∧ W.cell? ⟨w.heap.size + 1, 5, none⟩ = some (.int .i64 p.ext) ∧ W.cell? ⟨w.heap.size + 1, 6, none⟩ = some (.int .i64 p.ls) ∧ W.cell? ⟨w.heap.size + 1, 7, none⟩ = some (.int .i64 p.ln) ∧ W.cell? ⟨w.heap.size + 1, 8, none⟩ = some (.int .i64 p.lt) ∧ W.cell? ⟨w.heap.size + 1, 9, none⟩ = some (.int .i64 p.lp) ∧ W.cell? ⟨w.heap.size + 1, 10, none⟩ = some (.int .i64 p.lu) ∧ W.cell? ⟨w.heap.size + 1, 11, none⟩ = some (.int .i64 p.who) ∧ W.cell? ⟨w.heap.size + 1, 12, none⟩ = some (.int .i64 p.fee) ∧ W.cell? ⟨w.heap.size, 0, none⟩ = some (.int .i64 n.tm.keep) ∧ W.cell? ⟨w.heap.size, 1, none⟩ = some (.int .i64 n.tm.free) ∧ W.cell? ⟨w.heap.size, 2, none⟩ = some (.int .i64 n.tm.step) ∧ W.cell? ⟨w.heap.size, 3, none⟩ = some (.int .i64 n.tm.rate) ∧ W.cell? ⟨w.heap.size, 4, none⟩ = some (.int .i64 n.tm.cap) ∧ W.cell? ⟨w.heap.size, 5, none⟩ = some (.int .i64 n.tm.longer) ∧ W.cell? ⟨w.heap.size, 6, none⟩ = some (.int .i64 n.tm.price) ∧ W.cell? ⟨w.heap.size, 7, none⟩ = some (.int .i64 n.tm.most) ∧ W.cell? ⟨w.heap.size, 8, none⟩ = some (.int .i64 n.room) ∧ W.cell? ⟨w.heap.size, 9, none⟩ = some (.int .i64 n.secret) ∧ W.cell? ⟨w.heap.size, 10, none⟩ = some (.int .i64 n.now) ∧ W.cell? ⟨w.heap.size, 11, none⟩ = some (.slice n.AS n.st.length n.cS) ∧ W.cell? ⟨w.heap.size, 12, none⟩ = some (.slice n.AP n.pc.length n.cP) ∧ W.cell? ⟨w.heap.size, 13, none⟩ = some (.slice n.AG n.gr.length n.cG) ∧ W.cell? ⟨w.heap.size, 14, none⟩ = some (.slice n.AJ n.jr.length n.cJ)) ∧ Below w2.heap.size w2 W)) (by kernel_rfl) S0 (fun _ => ?_)
      refine tk9 (i := 0) (some 81) (.pointer (some ⟨w.heap.size + 1, 4, none⟩)) rfl rfl (fun W hSw => ?_) S0 ?_
      · (try dsimp only at hSw); go_simp <;> with_reducible rfl
      try simp only [Act.put, l9a, l9z, l9s]
      refine tk9 (i := 1) (some 82) (.int .i64 p.since) rfl rfl (fun W hSw => ?_) S0 ?_
      · (try dsimp only at hSw); go_simp <;> with_reducible rfl
      try simp only [Act.put, l9a, l9z, l9s]
      refine tk9 (i := 2) (some 83) (.pointer (some ⟨w.heap.size, 10, none⟩)) rfl rfl (fun W hSw => ?_) S0 ?_
      · (try dsimp only at hSw); go_simp <;> with_reducible rfl
      try simp only [Act.put, l9a, l9z, l9s]
      refine tk9 (i := 3) (some 84) (.int .i64 n.now) rfl rfl (fun W hSw => ?_) S0 ?_
      · (try dsimp only at hSw); go_simp <;> with_reducible rfl
      try simp only [Act.put, l9a, l9z, l9s]
      refine wpAnyH_ready (rs := [4]) (by kernel_rfl) (by simp) ?_
      refine AllReadyH.cons rfl (fun K hK => ?_) AllReadyH.nil
      go_simp
      go_at_call 33
      refine (inR_any _ p.since 0 n.now).mono ?_
      rintro e wa ⟨rfl, hw8⟩; rw [hw8]; clear hw8 wa
      rw [h1]
      go_wp2_with fail
      refine hK.out _ _ S0 (fun _ => ?_)
      clear hK K
      try simp only [Act.put, l9a, l9z, l9s]
      refine tk9 (i := 5) (some 86) (.bool false) rfl rfl (fun W hSw => ?_) S0 ?_
      · (try dsimp only at hSw); go_simp <;> with_reducible rfl
      try simp only [Act.put, l9a, l9z, l9s]
      refine tk9 (i := 6) (some 87) (.bool false) rfl rfl (fun W hSw => ?_) S0 ?_
      · (try dsimp only at hSw); go_simp <;> with_reducible rfl
      try simp only [Act.put, l9a, l9z, l9s]
      refine tk9 (i := 7) (some 88) (.pointer (some ⟨w.heap.size + 1, 5, none⟩)) rfl rfl (fun W hSw => ?_) S0 ?_
      · (try dsimp only at hSw); go_simp <;> with_reducible rfl
      try simp only [Act.put, l9a, l9z, l9s]
      refine tk9 (i := 8) (some 89) (.int .i64 p.ext) rfl rfl (fun W hSw => ?_) S0 ?_
      · (try dsimp only at hSw); go_simp <;> with_reducible rfl
      try simp only [Act.put, l9a, l9z, l9s]
      refine tk9 (i := 9) (some 90) (.pointer (some ⟨w.heap.size, 0, none⟩)) rfl rfl (fun W hSw => ?_) S0 ?_
      · (try dsimp only at hSw); go_simp <;> with_reducible rfl
      try simp only [Act.put, l9a, l9z, l9s]
      refine tk9 (i := 10) (some 91) (.pointer (some ⟨w.heap.size, 7, none⟩)) rfl rfl (fun W hSw => ?_) S0 ?_
      · (try dsimp only at hSw); go_simp <;> with_reducible rfl
      try simp only [Act.put, l9a, l9z, l9s]
      refine tk9 (i := 11) (some 92) (.int .i64 n.tm.most) rfl rfl (fun W hSw => ?_) S0 ?_
      · (try dsimp only at hSw); go_simp <;> with_reducible rfl
      try simp only [Act.put, l9a, l9z, l9s]
      refine wpAnyH_ready (rs := [12]) (by kernel_rfl) (by simp) ?_
      refine AllReadyH.cons rfl (fun K hK => ?_) AllReadyH.nil
      go_simp
      go_at_call 33
      refine (inR_any _ p.ext 0 n.tm.most).mono ?_
      rintro e wb ⟨rfl, hw8⟩; rw [hw8]; clear hw8 wb
      rw [h2]
      go_wp2_with fail
      refine hK.out _ _ S0 (fun _ => ?_)
      clear hK K
      try simp only [Act.put, l9a, l9z, l9s]
      refine tk9 (i := 13) (some 94) (.bool false) rfl rfl (fun W hSw => ?_) S0 ?_
      · (try dsimp only at hSw); go_simp <;> with_reducible rfl
      try simp only [Act.put, l9a, l9z, l9s]
      refine tk9 (i := 14) (some 95) (.bool false) rfl rfl (fun W hSw => ?_) S0 ?_
      · (try dsimp only at hSw); go_simp <;> with_reducible rfl
      try simp only [Act.put, l9a, l9z, l9s]
      refine tk9 (i := 15) (some 96) (.bool false) rfl rfl (fun W hSw => ?_) S0 ?_
      · (try dsimp only at hSw); go_simp <;> with_reducible rfl
      try simp only [Act.put, l9a, l9z, l9s]
      refine tk9 (i := 16) (some 97) (.pointer (some ⟨w.heap.size + 1, 6, none⟩)) rfl rfl (fun W hSw => ?_) S0 ?_
      · (try dsimp only at hSw); go_simp <;> with_reducible rfl
      try simp only [Act.put, l9a, l9z, l9s]
      refine tk9 (i := 17) (some 98) (.agg #[.int .i64 p.ls, .int .i64 p.ln, .int .i64 p.lt, .int .i64 p.lp, .int .i64 p.lu]) rfl rfl (fun W hSw => ?_) S0 ?_
      · (try dsimp only at hSw); go_simp <;> with_reducible rfl
      try simp only [Act.put, l9a, l9z, l9s]
      refine wpAnyH_ready (rs := [18]) (by kernel_rfl) (by simp) ?_
      refine AllReadyH.cons rfl (fun K hK => ?_) AllReadyH.nil
      go_simp
      go_at_call 67
      refine (lockS_any _ p.ls p.ln p.lt p.lp p.lu).mono ?_
      rintro e wc ⟨rfl, hb8⟩
      rw [h3]
      have hb9wc : Below w2.heap.size w2 wc := bthen ((Below.refl _ _).drew : Below w2.heap.size w2 w2.drew) hb8
      have Swc : (fun W : World => (W.cell? ⟨w.heap.size + 1, 0, none⟩ = some (.int .i64 p.size) ∧ W.cell? ⟨w.heap.size + 1, 1, none⟩ = some (.int .i64 p.owner) ∧ W.cell? ⟨w.heap.size + 1, 2, none⟩ = some (.int .i64 p.site) ∧ W.cell? ⟨w.heap.size + 1, 3, none⟩ = some (.int .i64 p.stage) ∧ W.cell? ⟨w.heap.size + 1, 4, none⟩ = some (.int .i64 p.since) ∧ W.cell? ⟨w.heap.size + 1, 5, none⟩ = some (.int .i64 p.ext) ∧ W.cell? ⟨w.heap.size + 1, 6, none⟩ = some (.int .i64 p.ls) ∧ W.cell? ⟨w.heap.size + 1, 7, none⟩ = some (.int .i64 p.ln) ∧ W.cell? ⟨w.heap.size + 1, 8, none⟩ = some (.int .i64 p.lt) ∧ W.cell? ⟨w.heap.size + 1, 9, none⟩ = some (.int .i64 p.lp) ∧ W.cell? ⟨w.heap.size + 1, 10, none⟩ = some (.int .i64 p.lu) ∧ W.cell? ⟨w.heap.size + 1, 11, none⟩ = some (.int .i64 p.who) ∧ W.cell? ⟨w.heap.size + 1, 12, none⟩ = some (.int .i64 p.fee) ∧ W.cell? ⟨w.heap.size, 0, none⟩ = some (.int .i64 n.tm.keep) ∧ W.cell? ⟨w.heap.size, 1, none⟩ = some (.int .i64 n.tm.free) ∧ W.cell? ⟨w.heap.size, 2, none⟩ = some (.int .i64 n.tm.step) ∧ W.cell? ⟨w.heap.size, 3, none⟩ = some (.int .i64 n.tm.rate) ∧ W.cell? ⟨w.heap.size, 4, none⟩ = some (.int .i64 n.tm.cap) ∧ W.cell? ⟨w.heap.size, 5, none⟩ = some (.int .i64 n.tm.longer) ∧ W.cell? ⟨w.heap.size, 6, none⟩ = some (.int .i64 n.tm.price) ∧ W.cell? ⟨w.heap.size, 7, none⟩ = some (.int .i64 n.tm.most) ∧ W.cell? ⟨w.heap.size, 8, none⟩ = some (.int .i64 n.room) ∧ W.cell? ⟨w.heap.size, 9, none⟩ = some (.int .i64 n.secret) ∧ W.cell? ⟨w.heap.size, 10, none⟩ = some (.int .i64 n.now) ∧ W.cell? ⟨w.heap.size, 11, none⟩ = some (.slice n.AS n.st.length n.cS) ∧ W.cell? ⟨w.heap.size, 12, none⟩ = some (.slice n.AP n.pc.length n.cP) ∧ W.cell? ⟨w.heap.size, 13, none⟩ = some (.slice n.AG n.gr.length n.cG) ∧ W.cell? ⟨w.heap.size, 14, none⟩ = some (.slice n.AJ n.jr.length n.cJ)) ∧ Below w2.heap.size w2 W) wc := ⟨⟨(bold hb9wc _ _ (by omega)).trans S0.1.1, (bold hb9wc _ _ (by omega)).trans S0.1.2.1, (bold hb9wc _ _ (by omega)).trans S0.1.2.2.1, (bold hb9wc _ _ (by omega)).trans S0.1.2.2.2.1, (bold hb9wc _ _ (by omega)).trans S0.1.2.2.2.2.1, (bold hb9wc _ _ (by omega)).trans S0.1.2.2.2.2.2.1, (bold hb9wc _ _ (by omega)).trans S0.1.2.2.2.2.2.2.1, (bold hb9wc _ _ (by omega)).trans S0.1.2.2.2.2.2.2.2.1, (bold hb9wc _ _ (by omega)).trans S0.1.2.2.2.2.2.2.2.2.1, (bold hb9wc _ _ (by omega)).trans S0.1.2.2.2.2.2.2.2.2.2.1, (bold hb9wc _ _ (by omega)).trans S0.1.2.2.2.2.2.2.2.2.2.2.1, (bold hb9wc _ _ (by omega)).trans S0.1.2.2.2.2.2.2.2.2.2.2.2.1, (bold hb9wc _ _ (by omega)).trans S0.1.2.2.2.2.2.2.2.2.2.2.2.2.1, (bold hb9wc _ _ (by omega)).trans S0.1.2.2.2.2.2.2.2.2.2.2.2.2.2.1, (bold hb9wc _ _ (by omega)).trans S0.1.2.2.2.2.2.2.2.2.2.2.2.2.2.2.1, (bold hb9wc _ _ (by omega)).trans S0.1.2.2.2.2.2.2.2.2.2.2.2.2.2.2.2.1, (bold hb9wc _ _ (by omega)).trans S0.1.2.2.2.2.2.2.2.2.2.2.2.2.2.2.2.2.1, (bold hb9wc _ _ (by omega)).trans S0.1.2.2.2.2.2.2.2.2.2.2.2.2.2.2.2.2.2.1, (bold hb9wc _ _ (by omega)).trans S0.1.2.2.2.2.2.2.2.2.2.2.2.2.2.2.2.2.2.2.1, (bold hb9wc _ _ (by omega)).trans S0.1.2.2.2.2.2.2.2.2.2.2.2.2.2.2.2.2.2.2.2.1, (bold hb9wc _ _ (by omega)).trans S0.1.2.2.2.2.2.2.2.2.2.2.2.2.2.2.2.2.2.2.2.2.1, (bold hb9wc _ _ (by omega)).trans S0.1.2.2.2.2.2.2.2.2.2.2.2.2.2.2.2.2.2.2.2.2.2.1, (bold hb9wc _ _ (by omega)).trans S0.1.2.2.2.2.2.2.2.2.2.2.2.2.2.2.2.2.2.2.2.2.2.2.1, (bold hb9wc _ _ (by omega)).trans S0.1.2.2.2.2.2.2.2.2.2.2.2.2.2.2.2.2.2.2.2.2.2.2.2.1, (bold hb9wc _ _ (by omega)).trans S0.1.2.2.2.2.2.2.2.2.2.2.2.2.2.2.2.2.2.2.2.2.2.2.2.2.1, (bold hb9wc _ _ (by omega)).trans S0.1.2.2.2.2.2.2.2.2.2.2.2.2.2.2.2.2.2.2.2.2.2.2.2.2.2.1, (bold hb9wc _ _ (by omega)).trans S0.1.2.2.2.2.2.2.2.2.2.2.2.2.2.2.2.2.2.2.2.2.2.2.2.2.2.2.1, (bold hb9wc _ _ (by omega)).trans S0.1.2.2.2.2.2.2.2.2.2.2.2.2.2.2.2.2.2.2.2.2.2.2.2.2.2.2.2⟩, hb9wc⟩
      clear hb8
      go_wp2_with fail
      refine hK.out _ _ Swc (fun _ => ?_)
      clear hK K
      try simp only [Act.put, l9a, l9z, l9s]
      refine tk9 (i := 19) (some 100) (.bool false) rfl rfl (fun W hSw => ?_) Swc ?_
      · (try dsimp only at hSw); go_simp <;> with_reducible rfl
      try simp only [Act.put, l9a, l9z, l9s]
      refine tk9 (i := 20) (some 101) (.bool false) rfl rfl (fun W hSw => ?_) Swc ?_
      · (try dsimp only at hSw); go_simp <;> with_reducible rfl
      try simp only [Act.put, l9a, l9z, l9s]
      refine tk9 (i := 21) (some 102) (.bool false) rfl rfl (fun W hSw => ?_) Swc ?_
      · (try dsimp only at hSw); go_simp <;> with_reducible rfl
      try simp only [Act.put, l9a, l9z, l9s]
      refine tk9 (i := 22) (some 103) (.pointer (some ⟨w.heap.size + 1, 6, none⟩)) rfl rfl (fun W hSw => ?_) Swc ?_
      · (try dsimp only at hSw); go_simp <;> with_reducible rfl
      try simp only [Act.put, l9a, l9z, l9s]
      refine tk9 (i := 23) (some 104) (.pointer (some ⟨w.heap.size + 1, 6, none⟩)) rfl rfl (fun W hSw => ?_) Swc ?_
      · (try dsimp only at hSw); go_simp <;> with_reducible rfl
      try simp only [Act.put, l9a, l9z, l9s]
      refine tk9 (i := 24) (some 105) (.int .i64 p.ls) rfl rfl (fun W hSw => ?_) Swc ?_
      · (try dsimp only at hSw); go_simp <;> with_reducible rfl
      try simp only [Act.put, l9a, l9z, l9s]
      refine tk9 (i := 25) (some 106) (.agg #[.int .i64 n.tm.keep, .int .i64 n.tm.free, .int .i64 n.tm.step, .int .i64 n.tm.rate, .int .i64 n.tm.cap, .int .i64 n.tm.longer, .int .i64 n.tm.price, .int .i64 n.tm.most, .int .i64 n.room, .int .i64 n.secret, .int .i64 n.now, .slice n.AS n.st.length n.cS, .slice n.AP n.pc.length n.cP, .slice n.AG n.gr.length n.cG, .slice n.AJ n.jr.length n.cJ]) rfl rfl (fun W hSw => ?_) Swc ?_
      · (try dsimp only at hSw); go_simp <;> with_reducible rfl
      try simp only [Act.put, l9a, l9z, l9s]
      refine tk9 (i := 26) (some 107) (.int .i64 (k : Int)) rfl rfl (fun W hSw => ?_) Swc ?_
      · (try dsimp only at hSw); go_simp <;> with_reducible rfl
      try simp only [Act.put, l9a, l9z, l9s]
      refine tk9 (i := 27) (some 108) (.int .i64 ((k : Int) + 1)) rfl rfl (fun W hSw => ?_) Swc ?_
      · (try dsimp only at hSw); go_simp <;> (first | with_reducible rfl | exact IntWalk.i64_in _ (by omega))
      try simp only [Act.put, l9a, l9z, l9s]
      refine wpAnyH_ready (rs := [28]) (by kernel_rfl) (by simp) ?_
      refine AllReadyH.cons rfl (fun K hK => ?_) AllReadyH.nil
      go_simp
      go_at_call 68
      refine (secSN_any _ n ((k : Int) + 1)).mono ?_
      rintro e wd ⟨rfl, hb8⟩
      rw [hsecr]
      have hb9wd : Below w2.heap.size w2 wd := bthen Swc.2 hb8
      have Swd : (fun W : World => (W.cell? ⟨w.heap.size + 1, 0, none⟩ = some (.int .i64 p.size) ∧ W.cell? ⟨w.heap.size + 1, 1, none⟩ = some (.int .i64 p.owner) ∧ W.cell? ⟨w.heap.size + 1, 2, none⟩ = some (.int .i64 p.site) ∧ W.cell? ⟨w.heap.size + 1, 3, none⟩ = some (.int .i64 p.stage) ∧ W.cell? ⟨w.heap.size + 1, 4, none⟩ = some (.int .i64 p.since) ∧ W.cell? ⟨w.heap.size + 1, 5, none⟩ = some (.int .i64 p.ext) ∧ W.cell? ⟨w.heap.size + 1, 6, none⟩ = some (.int .i64 p.ls) ∧ W.cell? ⟨w.heap.size + 1, 7, none⟩ = some (.int .i64 p.ln) ∧ W.cell? ⟨w.heap.size + 1, 8, none⟩ = some (.int .i64 p.lt) ∧ W.cell? ⟨w.heap.size + 1, 9, none⟩ = some (.int .i64 p.lp) ∧ W.cell? ⟨w.heap.size + 1, 10, none⟩ = some (.int .i64 p.lu) ∧ W.cell? ⟨w.heap.size + 1, 11, none⟩ = some (.int .i64 p.who) ∧ W.cell? ⟨w.heap.size + 1, 12, none⟩ = some (.int .i64 p.fee) ∧ W.cell? ⟨w.heap.size, 0, none⟩ = some (.int .i64 n.tm.keep) ∧ W.cell? ⟨w.heap.size, 1, none⟩ = some (.int .i64 n.tm.free) ∧ W.cell? ⟨w.heap.size, 2, none⟩ = some (.int .i64 n.tm.step) ∧ W.cell? ⟨w.heap.size, 3, none⟩ = some (.int .i64 n.tm.rate) ∧ W.cell? ⟨w.heap.size, 4, none⟩ = some (.int .i64 n.tm.cap) ∧ W.cell? ⟨w.heap.size, 5, none⟩ = some (.int .i64 n.tm.longer) ∧ W.cell? ⟨w.heap.size, 6, none⟩ = some (.int .i64 n.tm.price) ∧ W.cell? ⟨w.heap.size, 7, none⟩ = some (.int .i64 n.tm.most) ∧ W.cell? ⟨w.heap.size, 8, none⟩ = some (.int .i64 n.room) ∧ W.cell? ⟨w.heap.size, 9, none⟩ = some (.int .i64 n.secret) ∧ W.cell? ⟨w.heap.size, 10, none⟩ = some (.int .i64 n.now) ∧ W.cell? ⟨w.heap.size, 11, none⟩ = some (.slice n.AS n.st.length n.cS) ∧ W.cell? ⟨w.heap.size, 12, none⟩ = some (.slice n.AP n.pc.length n.cP) ∧ W.cell? ⟨w.heap.size, 13, none⟩ = some (.slice n.AG n.gr.length n.cG) ∧ W.cell? ⟨w.heap.size, 14, none⟩ = some (.slice n.AJ n.jr.length n.cJ)) ∧ Below w2.heap.size w2 W) wd := ⟨⟨(bold hb9wd _ _ (by omega)).trans S0.1.1, (bold hb9wd _ _ (by omega)).trans S0.1.2.1, (bold hb9wd _ _ (by omega)).trans S0.1.2.2.1, (bold hb9wd _ _ (by omega)).trans S0.1.2.2.2.1, (bold hb9wd _ _ (by omega)).trans S0.1.2.2.2.2.1, (bold hb9wd _ _ (by omega)).trans S0.1.2.2.2.2.2.1, (bold hb9wd _ _ (by omega)).trans S0.1.2.2.2.2.2.2.1, (bold hb9wd _ _ (by omega)).trans S0.1.2.2.2.2.2.2.2.1, (bold hb9wd _ _ (by omega)).trans S0.1.2.2.2.2.2.2.2.2.1, (bold hb9wd _ _ (by omega)).trans S0.1.2.2.2.2.2.2.2.2.2.1, (bold hb9wd _ _ (by omega)).trans S0.1.2.2.2.2.2.2.2.2.2.2.1, (bold hb9wd _ _ (by omega)).trans S0.1.2.2.2.2.2.2.2.2.2.2.2.1, (bold hb9wd _ _ (by omega)).trans S0.1.2.2.2.2.2.2.2.2.2.2.2.2.1, (bold hb9wd _ _ (by omega)).trans S0.1.2.2.2.2.2.2.2.2.2.2.2.2.2.1, (bold hb9wd _ _ (by omega)).trans S0.1.2.2.2.2.2.2.2.2.2.2.2.2.2.2.1, (bold hb9wd _ _ (by omega)).trans S0.1.2.2.2.2.2.2.2.2.2.2.2.2.2.2.2.1, (bold hb9wd _ _ (by omega)).trans S0.1.2.2.2.2.2.2.2.2.2.2.2.2.2.2.2.2.1, (bold hb9wd _ _ (by omega)).trans S0.1.2.2.2.2.2.2.2.2.2.2.2.2.2.2.2.2.2.1, (bold hb9wd _ _ (by omega)).trans S0.1.2.2.2.2.2.2.2.2.2.2.2.2.2.2.2.2.2.2.1, (bold hb9wd _ _ (by omega)).trans S0.1.2.2.2.2.2.2.2.2.2.2.2.2.2.2.2.2.2.2.2.1, (bold hb9wd _ _ (by omega)).trans S0.1.2.2.2.2.2.2.2.2.2.2.2.2.2.2.2.2.2.2.2.2.1, (bold hb9wd _ _ (by omega)).trans S0.1.2.2.2.2.2.2.2.2.2.2.2.2.2.2.2.2.2.2.2.2.2.1, (bold hb9wd _ _ (by omega)).trans S0.1.2.2.2.2.2.2.2.2.2.2.2.2.2.2.2.2.2.2.2.2.2.2.1, (bold hb9wd _ _ (by omega)).trans S0.1.2.2.2.2.2.2.2.2.2.2.2.2.2.2.2.2.2.2.2.2.2.2.2.1, (bold hb9wd _ _ (by omega)).trans S0.1.2.2.2.2.2.2.2.2.2.2.2.2.2.2.2.2.2.2.2.2.2.2.2.2.1, (bold hb9wd _ _ (by omega)).trans S0.1.2.2.2.2.2.2.2.2.2.2.2.2.2.2.2.2.2.2.2.2.2.2.2.2.2.1, (bold hb9wd _ _ (by omega)).trans S0.1.2.2.2.2.2.2.2.2.2.2.2.2.2.2.2.2.2.2.2.2.2.2.2.2.2.2.1, (bold hb9wd _ _ (by omega)).trans S0.1.2.2.2.2.2.2.2.2.2.2.2.2.2.2.2.2.2.2.2.2.2.2.2.2.2.2.2⟩, hb9wd⟩
      clear hb8
      go_wp2_with fail
      refine hK.out _ _ Swd (fun _ => ?_)
      clear hK K
      try simp only [Act.put, l9a, l9z, l9s]
      refine tk9 (i := 29) (some 110) (.bool false) rfl rfl (fun W hSw => ?_) Swd ?_
      · (try dsimp only at hSw); go_simp <;> with_reducible rfl
      try simp only [Act.put, l9a, l9z, l9s]
      refine tk9 (i := 30) (some 111) (.bool false) rfl rfl (fun W hSw => ?_) Swd ?_
      · (try dsimp only at hSw); go_simp <;> with_reducible rfl
      try simp only [Act.put, l9a, l9z, l9s]
      refine wpAnyH_done (by kernel_rfl) ?_ _
      have hbreg : Below w2.heap.size w2 wd := Swd.2
      clear S0 Swc hb9wc Swd hb9wd
      have hbz := hbreg.size
      have kk := has_call K.out hbreg; clear K; have K := Lib.hid kk; clear kk
      have kk := has_call K0.out hbreg; clear K0; have K0 := Lib.hid kk; clear kk
      have kk := bthen BB.out hbreg; clear BB; have BB := Lib.hid kk; clear kk hbreg
      have hsv2 := HSV.out
      rw [h1, h2, h3, HSE.out, g4] at hsv2
      simp only [Bool.true_and] at hsv2
      have HS2 := Lib.hid hsv2; clear hsv2 hsecr HSV
      have q0 := has_cell K.out 0 rfl; have q1 := has_cell K.out 1 rfl; have q2 := has_cell K.out 2 rfl; have q3 := has_cell K.out 3 rfl; have q4 := has_cell K.out 4 rfl; have q5 := has_cell K.out 5 rfl; have q6 := has_cell K.out 6 rfl; have q7 := has_cell K.out 7 rfl; have q8 := has_cell K.out 8 rfl; have q9 := has_cell K.out 9 rfl; have q10 := has_cell K.out 10 rfl; have q11 := has_cell K.out 11 rfl; have q12 := has_cell K.out 12 rfl; have ql := has_lt K.out
      have z0 := has_cell K0.out 0 rfl; have z1 := has_cell K0.out 1 rfl; have z2 := has_cell K0.out 2 rfl; have z3 := has_cell K0.out 3 rfl; have z4 := has_cell K0.out 4 rfl; have z5 := has_cell K0.out 5 rfl; have z6 := has_cell K0.out 6 rfl; have z7 := has_cell K0.out 7 rfl; have z8 := has_cell K0.out 8 rfl; have z9 := has_cell K0.out 9 rfl; have z10 := has_cell K0.out 10 rfl; have z11 := has_cell K0.out 11 rfl; have z12 := has_cell K0.out 12 rfl; have z13 := has_cell K0.out 13 rfl; have z14 := has_cell K0.out 14 rfl; have zl := has_lt K0.out
      by_cases h5 : p.stage = 4
      · have e5 : (p.stage == 4) = true := by simpa using h5
        have hs3 := HS2.out
        rw [if_pos h5] at hs3
        have HS3 := Lib.hid hs3; clear hs3 h5
        go_wp2_with fail
        refine (perS_any _ p.who).mono ?_
        rintro e w' ⟨rfl, hw⟩
        rw [hw]; clear hw
        cases h6 : perB p.who
        · go_wp2_with fail
          go_ret
          exact ⟨rbool (by rw [HP2.out, HS3.out]; simp [h6]), BB.out⟩
        have hw1 : IntKind.i64.wrap (n.tm.price * n.tm.most) = n.tm.price * n.tm.most := IntWalk.i64_in _ (by omega)
        have hw2 : IntKind.i64.wrap (n.tm.cap + n.tm.price * n.tm.most) = n.tm.cap + n.tm.price * n.tm.most := IntWalk.i64_in _ (by omega)
        go_wp2_with fail
        try rw [hw1]
        try rw [hw2]
        refine (inR_any _ p.fee 0 (n.tm.cap + n.tm.price * n.tm.most)).mono ?_
        rintro e w' ⟨rfl, hw⟩
        rw [hw]; clear hw
        cases h7 : inR p.fee 0 (n.tm.cap + n.tm.price * n.tm.most)
        · go_wp2_with fail
          go_ret
          exact ⟨rbool (by rw [HP2.out, HS3.out]; simp [h6, h7]), BB.out⟩
        · go_wp2_with fail
          go_ret
          exact ⟨rbool (by rw [HP2.out, HS3.out]; simp [h6, h7]), BB.out⟩
      · have e5 : (p.stage == 4) = false := by simpa using h5
        have hs3 := HS2.out
        rw [if_neg h5] at hs3
        have HS3 := Lib.hid hs3; clear hs3 h5
        cases d1 : (p.who == 0) <;> cases d2 : (p.fee == 0)
        all_goals (go_wp2_with fail)
        all_goals (go_ret; exact ⟨rbool (by rw [HP2.out, HS3.out]; simp [d1, d2]), BB.out⟩)
    · have f4 : (p.ls != sv) = true := by simpa using h4
      have g4 : (p.ls == sv) = false := by simpa using h4
      clear h4
      have hlp := has_lt K.out; have hln := has_lt K0.out
      have pc0 := has_cell (has_drew K.out) 0 rfl; have pc1 := has_cell (has_drew K.out) 1 rfl; have pc2 := has_cell (has_drew K.out) 2 rfl; have pc3 := has_cell (has_drew K.out) 3 rfl; have pc4 := has_cell (has_drew K.out) 4 rfl; have pc5 := has_cell (has_drew K.out) 5 rfl; have pc6 := has_cell (has_drew K.out) 6 rfl; have pc7 := has_cell (has_drew K.out) 7 rfl; have pc8 := has_cell (has_drew K.out) 8 rfl; have pc9 := has_cell (has_drew K.out) 9 rfl; have pc10 := has_cell (has_drew K.out) 10 rfl; have pc11 := has_cell (has_drew K.out) 11 rfl; have pc12 := has_cell (has_drew K.out) 12 rfl
      have nc0 := has_cell (has_drew K0.out) 0 rfl; have nc1 := has_cell (has_drew K0.out) 1 rfl; have nc2 := has_cell (has_drew K0.out) 2 rfl; have nc3 := has_cell (has_drew K0.out) 3 rfl; have nc4 := has_cell (has_drew K0.out) 4 rfl; have nc5 := has_cell (has_drew K0.out) 5 rfl; have nc6 := has_cell (has_drew K0.out) 6 rfl; have nc7 := has_cell (has_drew K0.out) 7 rfl; have nc8 := has_cell (has_drew K0.out) 8 rfl; have nc9 := has_cell (has_drew K0.out) 9 rfl; have nc10 := has_cell (has_drew K0.out) 10 rfl; have nc11 := has_cell (has_drew K0.out) 11 rfl; have nc12 := has_cell (has_drew K0.out) 12 rfl; have nc13 := has_cell (has_drew K0.out) 13 rfl; have nc14 := has_cell (has_drew K0.out) 14 rfl
      have S0 : (fun W : World => (W.cell? ⟨w.heap.size + 1, 0, none⟩ = some (.int .i64 p.size) ∧ W.cell? ⟨w.heap.size + 1, 1, none⟩ = some (.int .i64 p.owner) ∧ W.cell? ⟨w.heap.size + 1, 2, none⟩ = some (.int .i64 p.site) ∧ W.cell? ⟨w.heap.size + 1, 3, none⟩ = some (.int .i64 p.stage) ∧ W.cell? ⟨w.heap.size + 1, 4, none⟩ = some (.int .i64 p.since) ∧ W.cell? ⟨w.heap.size + 1, 5, none⟩ = some (.int .i64 p.ext) ∧ W.cell? ⟨w.heap.size + 1, 6, none⟩ = some (.int .i64 p.ls) ∧ W.cell? ⟨w.heap.size + 1, 7, none⟩ = some (.int .i64 p.ln) ∧ W.cell? ⟨w.heap.size + 1, 8, none⟩ = some (.int .i64 p.lt) ∧ W.cell? ⟨w.heap.size + 1, 9, none⟩ = some (.int .i64 p.lp) ∧ W.cell? ⟨w.heap.size + 1, 10, none⟩ = some (.int .i64 p.lu) ∧ W.cell? ⟨w.heap.size + 1, 11, none⟩ = some (.int .i64 p.who) ∧ W.cell? ⟨w.heap.size + 1, 12, none⟩ = some (.int .i64 p.fee) ∧ W.cell? ⟨w.heap.size, 0, none⟩ = some (.int .i64 n.tm.keep) ∧ W.cell? ⟨w.heap.size, 1, none⟩ = some (.int .i64 n.tm.free) ∧ W.cell? ⟨w.heap.size, 2, none⟩ = some (.int .i64 n.tm.step) ∧ W.cell? ⟨w.heap.size, 3, none⟩ = some (.int .i64 n.tm.rate) ∧ W.cell? ⟨w.heap.size, 4, none⟩ = some (.int .i64 n.tm.cap) ∧ W.cell? ⟨w.heap.size, 5, none⟩ = some (.int .i64 n.tm.longer) ∧ W.cell? ⟨w.heap.size, 6, none⟩ = some (.int .i64 n.tm.price) ∧ W.cell? ⟨w.heap.size, 7, none⟩ = some (.int .i64 n.tm.most) ∧ W.cell? ⟨w.heap.size, 8, none⟩ = some (.int .i64 n.room) ∧ W.cell? ⟨w.heap.size, 9, none⟩ = some (.int .i64 n.secret) ∧ W.cell? ⟨w.heap.size, 10, none⟩ = some (.int .i64 n.now) ∧ W.cell? ⟨w.heap.size, 11, none⟩ = some (.slice n.AS n.st.length n.cS) ∧ W.cell? ⟨w.heap.size, 12, none⟩ = some (.slice n.AP n.pc.length n.cP) ∧ W.cell? ⟨w.heap.size, 13, none⟩ = some (.slice n.AG n.gr.length n.cG) ∧ W.cell? ⟨w.heap.size, 14, none⟩ = some (.slice n.AJ n.jr.length n.cJ)) ∧ Below w2.heap.size w2 W) w2.drew := ⟨⟨pc0, pc1, pc2, pc3, pc4, pc5, pc6, pc7, pc8, pc9, pc10, pc11, pc12, nc0, nc1, nc2, nc3, nc4, nc5, nc6, nc7, nc8, nc9, nc10, nc11, nc12, nc13, nc14⟩, (Below.refl _ _).drew⟩
      clear pc0 pc1 pc2 pc3 pc4 pc5 pc6 pc7 pc8 pc9 pc10 pc11 pc12 nc0 nc1 nc2 nc3 nc4 nc5 nc6 nc7 nc8 nc9 nc10 nc11 nc12 nc13 nc14
      refine wp_region_held_drew (S := (fun W : World => (W.cell? ⟨w.heap.size + 1, 0, none⟩ = some (.int .i64 p.size) ∧ W.cell? ⟨w.heap.size + 1, 1, none⟩ = some (.int .i64 p.owner) ∧ W.cell? ⟨w.heap.size + 1, 2, none⟩ = some (.int .i64 p.site) ∧ W.cell? ⟨w.heap.size + 1, 3, none⟩ = some (.int .i64 p.stage) ∧ W.cell? ⟨w.heap.size + 1, 4, none⟩ = some (.int .i64 p.since) ∧ W.cell? ⟨w.heap.size + 1, 5, none⟩ = some (.int .i64 p.ext) ∧ W.cell? ⟨w.heap.size + 1, 6, none⟩ = some (.int .i64 p.ls) ∧ W.cell? ⟨w.heap.size + 1, 7, none⟩ = some (.int .i64 p.ln) ∧ W.cell? ⟨w.heap.size + 1, 8, none⟩ = some (.int .i64 p.lt) ∧ W.cell? ⟨w.heap.size + 1, 9, none⟩ = some (.int .i64 p.lp) ∧ W.cell? ⟨w.heap.size + 1, 10, none⟩ = some (.int .i64 p.lu) ∧ W.cell? ⟨w.heap.size + 1, 11, none⟩ = some (.int .i64 p.who) ∧ W.cell? ⟨w.heap.size + 1, 12, none⟩ = some (.int .i64 p.fee) ∧ W.cell? ⟨w.heap.size, 0, none⟩ = some (.int .i64 n.tm.keep) ∧ W.cell? ⟨w.heap.size, 1, none⟩ = some (.int .i64 n.tm.free) ∧ W.cell? ⟨w.heap.size, 2, none⟩ = some (.int .i64 n.tm.step) ∧ W.cell? ⟨w.heap.size, 3, none⟩ = some (.int .i64 n.tm.rate) ∧ W.cell? ⟨w.heap.size, 4, none⟩ = some (.int .i64 n.tm.cap) ∧ W.cell? ⟨w.heap.size, 5, none⟩ = some (.int .i64 n.tm.longer) ∧ W.cell? ⟨w.heap.size, 6, none⟩ = some (.int .i64 n.tm.price) ∧ W.cell? ⟨w.heap.size, 7, none⟩ = some (.int .i64 n.tm.most) ∧ W.cell? ⟨w.heap.size, 8, none⟩ = some (.int .i64 n.room) ∧ W.cell? ⟨w.heap.size, 9, none⟩ = some (.int .i64 n.secret) ∧ W.cell? ⟨w.heap.size, 10, none⟩ = some (.int .i64 n.now) ∧ W.cell? ⟨w.heap.size, 11, none⟩ = some (.slice n.AS n.st.length n.cS) ∧ W.cell? ⟨w.heap.size, 12, none⟩ = some (.slice n.AP n.pc.length n.cP) ∧ W.cell? ⟨w.heap.size, 13, none⟩ = some (.slice n.AG n.gr.length n.cG) ∧ W.cell? ⟨w.heap.size, 14, none⟩ = some (.slice n.AJ n.jr.length n.cJ)) ∧ Below w2.heap.size w2 W)) (by kernel_rfl) S0 (fun _ => ?_)
      refine tk9 (i := 0) (some 81) (.pointer (some ⟨w.heap.size + 1, 4, none⟩)) rfl rfl (fun W hSw => ?_) S0 ?_
      · (try dsimp only at hSw); go_simp <;> with_reducible rfl
      try simp only [Act.put, l9a, l9z, l9s]
      refine tk9 (i := 1) (some 82) (.int .i64 p.since) rfl rfl (fun W hSw => ?_) S0 ?_
      · (try dsimp only at hSw); go_simp <;> with_reducible rfl
      try simp only [Act.put, l9a, l9z, l9s]
      refine tk9 (i := 2) (some 83) (.pointer (some ⟨w.heap.size, 10, none⟩)) rfl rfl (fun W hSw => ?_) S0 ?_
      · (try dsimp only at hSw); go_simp <;> with_reducible rfl
      try simp only [Act.put, l9a, l9z, l9s]
      refine tk9 (i := 3) (some 84) (.int .i64 n.now) rfl rfl (fun W hSw => ?_) S0 ?_
      · (try dsimp only at hSw); go_simp <;> with_reducible rfl
      try simp only [Act.put, l9a, l9z, l9s]
      refine wpAnyH_ready (rs := [4]) (by kernel_rfl) (by simp) ?_
      refine AllReadyH.cons rfl (fun K hK => ?_) AllReadyH.nil
      go_simp
      go_at_call 33
      refine (inR_any _ p.since 0 n.now).mono ?_
      rintro e wa ⟨rfl, hw8⟩; rw [hw8]; clear hw8 wa
      rw [h1]
      go_wp2_with fail
      refine hK.out _ _ S0 (fun _ => ?_)
      clear hK K
      try simp only [Act.put, l9a, l9z, l9s]
      refine tk9 (i := 5) (some 86) (.bool false) rfl rfl (fun W hSw => ?_) S0 ?_
      · (try dsimp only at hSw); go_simp <;> with_reducible rfl
      try simp only [Act.put, l9a, l9z, l9s]
      refine tk9 (i := 6) (some 87) (.bool false) rfl rfl (fun W hSw => ?_) S0 ?_
      · (try dsimp only at hSw); go_simp <;> with_reducible rfl
      try simp only [Act.put, l9a, l9z, l9s]
      refine tk9 (i := 7) (some 88) (.pointer (some ⟨w.heap.size + 1, 5, none⟩)) rfl rfl (fun W hSw => ?_) S0 ?_
      · (try dsimp only at hSw); go_simp <;> with_reducible rfl
      try simp only [Act.put, l9a, l9z, l9s]
      refine tk9 (i := 8) (some 89) (.int .i64 p.ext) rfl rfl (fun W hSw => ?_) S0 ?_
      · (try dsimp only at hSw); go_simp <;> with_reducible rfl
      try simp only [Act.put, l9a, l9z, l9s]
      refine tk9 (i := 9) (some 90) (.pointer (some ⟨w.heap.size, 0, none⟩)) rfl rfl (fun W hSw => ?_) S0 ?_
      · (try dsimp only at hSw); go_simp <;> with_reducible rfl
      try simp only [Act.put, l9a, l9z, l9s]
      refine tk9 (i := 10) (some 91) (.pointer (some ⟨w.heap.size, 7, none⟩)) rfl rfl (fun W hSw => ?_) S0 ?_
      · (try dsimp only at hSw); go_simp <;> with_reducible rfl
      try simp only [Act.put, l9a, l9z, l9s]
      refine tk9 (i := 11) (some 92) (.int .i64 n.tm.most) rfl rfl (fun W hSw => ?_) S0 ?_
      · (try dsimp only at hSw); go_simp <;> with_reducible rfl
      try simp only [Act.put, l9a, l9z, l9s]
      refine wpAnyH_ready (rs := [12]) (by kernel_rfl) (by simp) ?_
      refine AllReadyH.cons rfl (fun K hK => ?_) AllReadyH.nil
      go_simp
      go_at_call 33
      refine (inR_any _ p.ext 0 n.tm.most).mono ?_
      rintro e wb ⟨rfl, hw8⟩; rw [hw8]; clear hw8 wb
      rw [h2]
      go_wp2_with fail
      refine hK.out _ _ S0 (fun _ => ?_)
      clear hK K
      try simp only [Act.put, l9a, l9z, l9s]
      refine tk9 (i := 13) (some 94) (.bool false) rfl rfl (fun W hSw => ?_) S0 ?_
      · (try dsimp only at hSw); go_simp <;> with_reducible rfl
      try simp only [Act.put, l9a, l9z, l9s]
      refine tk9 (i := 14) (some 95) (.bool false) rfl rfl (fun W hSw => ?_) S0 ?_
      · (try dsimp only at hSw); go_simp <;> with_reducible rfl
      try simp only [Act.put, l9a, l9z, l9s]
      refine tk9 (i := 15) (some 96) (.bool false) rfl rfl (fun W hSw => ?_) S0 ?_
      · (try dsimp only at hSw); go_simp <;> with_reducible rfl
      try simp only [Act.put, l9a, l9z, l9s]
      refine tk9 (i := 16) (some 97) (.pointer (some ⟨w.heap.size + 1, 6, none⟩)) rfl rfl (fun W hSw => ?_) S0 ?_
      · (try dsimp only at hSw); go_simp <;> with_reducible rfl
      try simp only [Act.put, l9a, l9z, l9s]
      refine tk9 (i := 17) (some 98) (.agg #[.int .i64 p.ls, .int .i64 p.ln, .int .i64 p.lt, .int .i64 p.lp, .int .i64 p.lu]) rfl rfl (fun W hSw => ?_) S0 ?_
      · (try dsimp only at hSw); go_simp <;> with_reducible rfl
      try simp only [Act.put, l9a, l9z, l9s]
      refine wpAnyH_ready (rs := [18]) (by kernel_rfl) (by simp) ?_
      refine AllReadyH.cons rfl (fun K hK => ?_) AllReadyH.nil
      go_simp
      go_at_call 67
      refine (lockS_any _ p.ls p.ln p.lt p.lp p.lu).mono ?_
      rintro e wc ⟨rfl, hb8⟩
      rw [h3]
      have hb9wc : Below w2.heap.size w2 wc := bthen ((Below.refl _ _).drew : Below w2.heap.size w2 w2.drew) hb8
      have Swc : (fun W : World => (W.cell? ⟨w.heap.size + 1, 0, none⟩ = some (.int .i64 p.size) ∧ W.cell? ⟨w.heap.size + 1, 1, none⟩ = some (.int .i64 p.owner) ∧ W.cell? ⟨w.heap.size + 1, 2, none⟩ = some (.int .i64 p.site) ∧ W.cell? ⟨w.heap.size + 1, 3, none⟩ = some (.int .i64 p.stage) ∧ W.cell? ⟨w.heap.size + 1, 4, none⟩ = some (.int .i64 p.since) ∧ W.cell? ⟨w.heap.size + 1, 5, none⟩ = some (.int .i64 p.ext) ∧ W.cell? ⟨w.heap.size + 1, 6, none⟩ = some (.int .i64 p.ls) ∧ W.cell? ⟨w.heap.size + 1, 7, none⟩ = some (.int .i64 p.ln) ∧ W.cell? ⟨w.heap.size + 1, 8, none⟩ = some (.int .i64 p.lt) ∧ W.cell? ⟨w.heap.size + 1, 9, none⟩ = some (.int .i64 p.lp) ∧ W.cell? ⟨w.heap.size + 1, 10, none⟩ = some (.int .i64 p.lu) ∧ W.cell? ⟨w.heap.size + 1, 11, none⟩ = some (.int .i64 p.who) ∧ W.cell? ⟨w.heap.size + 1, 12, none⟩ = some (.int .i64 p.fee) ∧ W.cell? ⟨w.heap.size, 0, none⟩ = some (.int .i64 n.tm.keep) ∧ W.cell? ⟨w.heap.size, 1, none⟩ = some (.int .i64 n.tm.free) ∧ W.cell? ⟨w.heap.size, 2, none⟩ = some (.int .i64 n.tm.step) ∧ W.cell? ⟨w.heap.size, 3, none⟩ = some (.int .i64 n.tm.rate) ∧ W.cell? ⟨w.heap.size, 4, none⟩ = some (.int .i64 n.tm.cap) ∧ W.cell? ⟨w.heap.size, 5, none⟩ = some (.int .i64 n.tm.longer) ∧ W.cell? ⟨w.heap.size, 6, none⟩ = some (.int .i64 n.tm.price) ∧ W.cell? ⟨w.heap.size, 7, none⟩ = some (.int .i64 n.tm.most) ∧ W.cell? ⟨w.heap.size, 8, none⟩ = some (.int .i64 n.room) ∧ W.cell? ⟨w.heap.size, 9, none⟩ = some (.int .i64 n.secret) ∧ W.cell? ⟨w.heap.size, 10, none⟩ = some (.int .i64 n.now) ∧ W.cell? ⟨w.heap.size, 11, none⟩ = some (.slice n.AS n.st.length n.cS) ∧ W.cell? ⟨w.heap.size, 12, none⟩ = some (.slice n.AP n.pc.length n.cP) ∧ W.cell? ⟨w.heap.size, 13, none⟩ = some (.slice n.AG n.gr.length n.cG) ∧ W.cell? ⟨w.heap.size, 14, none⟩ = some (.slice n.AJ n.jr.length n.cJ)) ∧ Below w2.heap.size w2 W) wc := ⟨⟨(bold hb9wc _ _ (by omega)).trans S0.1.1, (bold hb9wc _ _ (by omega)).trans S0.1.2.1, (bold hb9wc _ _ (by omega)).trans S0.1.2.2.1, (bold hb9wc _ _ (by omega)).trans S0.1.2.2.2.1, (bold hb9wc _ _ (by omega)).trans S0.1.2.2.2.2.1, (bold hb9wc _ _ (by omega)).trans S0.1.2.2.2.2.2.1, (bold hb9wc _ _ (by omega)).trans S0.1.2.2.2.2.2.2.1, (bold hb9wc _ _ (by omega)).trans S0.1.2.2.2.2.2.2.2.1, (bold hb9wc _ _ (by omega)).trans S0.1.2.2.2.2.2.2.2.2.1, (bold hb9wc _ _ (by omega)).trans S0.1.2.2.2.2.2.2.2.2.2.1, (bold hb9wc _ _ (by omega)).trans S0.1.2.2.2.2.2.2.2.2.2.2.1, (bold hb9wc _ _ (by omega)).trans S0.1.2.2.2.2.2.2.2.2.2.2.2.1, (bold hb9wc _ _ (by omega)).trans S0.1.2.2.2.2.2.2.2.2.2.2.2.2.1, (bold hb9wc _ _ (by omega)).trans S0.1.2.2.2.2.2.2.2.2.2.2.2.2.2.1, (bold hb9wc _ _ (by omega)).trans S0.1.2.2.2.2.2.2.2.2.2.2.2.2.2.2.1, (bold hb9wc _ _ (by omega)).trans S0.1.2.2.2.2.2.2.2.2.2.2.2.2.2.2.2.1, (bold hb9wc _ _ (by omega)).trans S0.1.2.2.2.2.2.2.2.2.2.2.2.2.2.2.2.2.1, (bold hb9wc _ _ (by omega)).trans S0.1.2.2.2.2.2.2.2.2.2.2.2.2.2.2.2.2.2.1, (bold hb9wc _ _ (by omega)).trans S0.1.2.2.2.2.2.2.2.2.2.2.2.2.2.2.2.2.2.2.1, (bold hb9wc _ _ (by omega)).trans S0.1.2.2.2.2.2.2.2.2.2.2.2.2.2.2.2.2.2.2.2.1, (bold hb9wc _ _ (by omega)).trans S0.1.2.2.2.2.2.2.2.2.2.2.2.2.2.2.2.2.2.2.2.2.1, (bold hb9wc _ _ (by omega)).trans S0.1.2.2.2.2.2.2.2.2.2.2.2.2.2.2.2.2.2.2.2.2.2.1, (bold hb9wc _ _ (by omega)).trans S0.1.2.2.2.2.2.2.2.2.2.2.2.2.2.2.2.2.2.2.2.2.2.2.1, (bold hb9wc _ _ (by omega)).trans S0.1.2.2.2.2.2.2.2.2.2.2.2.2.2.2.2.2.2.2.2.2.2.2.2.1, (bold hb9wc _ _ (by omega)).trans S0.1.2.2.2.2.2.2.2.2.2.2.2.2.2.2.2.2.2.2.2.2.2.2.2.2.1, (bold hb9wc _ _ (by omega)).trans S0.1.2.2.2.2.2.2.2.2.2.2.2.2.2.2.2.2.2.2.2.2.2.2.2.2.2.1, (bold hb9wc _ _ (by omega)).trans S0.1.2.2.2.2.2.2.2.2.2.2.2.2.2.2.2.2.2.2.2.2.2.2.2.2.2.2.1, (bold hb9wc _ _ (by omega)).trans S0.1.2.2.2.2.2.2.2.2.2.2.2.2.2.2.2.2.2.2.2.2.2.2.2.2.2.2.2⟩, hb9wc⟩
      clear hb8
      go_wp2_with fail
      refine hK.out _ _ Swc (fun _ => ?_)
      clear hK K
      try simp only [Act.put, l9a, l9z, l9s]
      refine tk9 (i := 19) (some 100) (.bool false) rfl rfl (fun W hSw => ?_) Swc ?_
      · (try dsimp only at hSw); go_simp <;> with_reducible rfl
      try simp only [Act.put, l9a, l9z, l9s]
      refine tk9 (i := 20) (some 101) (.bool false) rfl rfl (fun W hSw => ?_) Swc ?_
      · (try dsimp only at hSw); go_simp <;> with_reducible rfl
      try simp only [Act.put, l9a, l9z, l9s]
      refine tk9 (i := 21) (some 102) (.bool false) rfl rfl (fun W hSw => ?_) Swc ?_
      · (try dsimp only at hSw); go_simp <;> with_reducible rfl
      try simp only [Act.put, l9a, l9z, l9s]
      refine tk9 (i := 22) (some 103) (.pointer (some ⟨w.heap.size + 1, 6, none⟩)) rfl rfl (fun W hSw => ?_) Swc ?_
      · (try dsimp only at hSw); go_simp <;> with_reducible rfl
      try simp only [Act.put, l9a, l9z, l9s]
      refine tk9 (i := 23) (some 104) (.pointer (some ⟨w.heap.size + 1, 6, none⟩)) rfl rfl (fun W hSw => ?_) Swc ?_
      · (try dsimp only at hSw); go_simp <;> with_reducible rfl
      try simp only [Act.put, l9a, l9z, l9s]
      refine tk9 (i := 24) (some 105) (.int .i64 p.ls) rfl rfl (fun W hSw => ?_) Swc ?_
      · (try dsimp only at hSw); go_simp <;> with_reducible rfl
      try simp only [Act.put, l9a, l9z, l9s]
      refine tk9 (i := 25) (some 106) (.agg #[.int .i64 n.tm.keep, .int .i64 n.tm.free, .int .i64 n.tm.step, .int .i64 n.tm.rate, .int .i64 n.tm.cap, .int .i64 n.tm.longer, .int .i64 n.tm.price, .int .i64 n.tm.most, .int .i64 n.room, .int .i64 n.secret, .int .i64 n.now, .slice n.AS n.st.length n.cS, .slice n.AP n.pc.length n.cP, .slice n.AG n.gr.length n.cG, .slice n.AJ n.jr.length n.cJ]) rfl rfl (fun W hSw => ?_) Swc ?_
      · (try dsimp only at hSw); go_simp <;> with_reducible rfl
      try simp only [Act.put, l9a, l9z, l9s]
      refine tk9 (i := 26) (some 107) (.int .i64 (k : Int)) rfl rfl (fun W hSw => ?_) Swc ?_
      · (try dsimp only at hSw); go_simp <;> with_reducible rfl
      try simp only [Act.put, l9a, l9z, l9s]
      refine tk9 (i := 27) (some 108) (.int .i64 ((k : Int) + 1)) rfl rfl (fun W hSw => ?_) Swc ?_
      · (try dsimp only at hSw); go_simp <;> (first | with_reducible rfl | exact IntWalk.i64_in _ (by omega))
      try simp only [Act.put, l9a, l9z, l9s]
      refine wpAnyH_ready (rs := [28]) (by kernel_rfl) (by simp) ?_
      refine AllReadyH.cons rfl (fun K hK => ?_) AllReadyH.nil
      go_simp
      go_at_call 68
      refine (secSN_any _ n ((k : Int) + 1)).mono ?_
      rintro e wd ⟨rfl, hb8⟩
      rw [hsecr]
      have hb9wd : Below w2.heap.size w2 wd := bthen Swc.2 hb8
      have Swd : (fun W : World => (W.cell? ⟨w.heap.size + 1, 0, none⟩ = some (.int .i64 p.size) ∧ W.cell? ⟨w.heap.size + 1, 1, none⟩ = some (.int .i64 p.owner) ∧ W.cell? ⟨w.heap.size + 1, 2, none⟩ = some (.int .i64 p.site) ∧ W.cell? ⟨w.heap.size + 1, 3, none⟩ = some (.int .i64 p.stage) ∧ W.cell? ⟨w.heap.size + 1, 4, none⟩ = some (.int .i64 p.since) ∧ W.cell? ⟨w.heap.size + 1, 5, none⟩ = some (.int .i64 p.ext) ∧ W.cell? ⟨w.heap.size + 1, 6, none⟩ = some (.int .i64 p.ls) ∧ W.cell? ⟨w.heap.size + 1, 7, none⟩ = some (.int .i64 p.ln) ∧ W.cell? ⟨w.heap.size + 1, 8, none⟩ = some (.int .i64 p.lt) ∧ W.cell? ⟨w.heap.size + 1, 9, none⟩ = some (.int .i64 p.lp) ∧ W.cell? ⟨w.heap.size + 1, 10, none⟩ = some (.int .i64 p.lu) ∧ W.cell? ⟨w.heap.size + 1, 11, none⟩ = some (.int .i64 p.who) ∧ W.cell? ⟨w.heap.size + 1, 12, none⟩ = some (.int .i64 p.fee) ∧ W.cell? ⟨w.heap.size, 0, none⟩ = some (.int .i64 n.tm.keep) ∧ W.cell? ⟨w.heap.size, 1, none⟩ = some (.int .i64 n.tm.free) ∧ W.cell? ⟨w.heap.size, 2, none⟩ = some (.int .i64 n.tm.step) ∧ W.cell? ⟨w.heap.size, 3, none⟩ = some (.int .i64 n.tm.rate) ∧ W.cell? ⟨w.heap.size, 4, none⟩ = some (.int .i64 n.tm.cap) ∧ W.cell? ⟨w.heap.size, 5, none⟩ = some (.int .i64 n.tm.longer) ∧ W.cell? ⟨w.heap.size, 6, none⟩ = some (.int .i64 n.tm.price) ∧ W.cell? ⟨w.heap.size, 7, none⟩ = some (.int .i64 n.tm.most) ∧ W.cell? ⟨w.heap.size, 8, none⟩ = some (.int .i64 n.room) ∧ W.cell? ⟨w.heap.size, 9, none⟩ = some (.int .i64 n.secret) ∧ W.cell? ⟨w.heap.size, 10, none⟩ = some (.int .i64 n.now) ∧ W.cell? ⟨w.heap.size, 11, none⟩ = some (.slice n.AS n.st.length n.cS) ∧ W.cell? ⟨w.heap.size, 12, none⟩ = some (.slice n.AP n.pc.length n.cP) ∧ W.cell? ⟨w.heap.size, 13, none⟩ = some (.slice n.AG n.gr.length n.cG) ∧ W.cell? ⟨w.heap.size, 14, none⟩ = some (.slice n.AJ n.jr.length n.cJ)) ∧ Below w2.heap.size w2 W) wd := ⟨⟨(bold hb9wd _ _ (by omega)).trans S0.1.1, (bold hb9wd _ _ (by omega)).trans S0.1.2.1, (bold hb9wd _ _ (by omega)).trans S0.1.2.2.1, (bold hb9wd _ _ (by omega)).trans S0.1.2.2.2.1, (bold hb9wd _ _ (by omega)).trans S0.1.2.2.2.2.1, (bold hb9wd _ _ (by omega)).trans S0.1.2.2.2.2.2.1, (bold hb9wd _ _ (by omega)).trans S0.1.2.2.2.2.2.2.1, (bold hb9wd _ _ (by omega)).trans S0.1.2.2.2.2.2.2.2.1, (bold hb9wd _ _ (by omega)).trans S0.1.2.2.2.2.2.2.2.2.1, (bold hb9wd _ _ (by omega)).trans S0.1.2.2.2.2.2.2.2.2.2.1, (bold hb9wd _ _ (by omega)).trans S0.1.2.2.2.2.2.2.2.2.2.2.1, (bold hb9wd _ _ (by omega)).trans S0.1.2.2.2.2.2.2.2.2.2.2.2.1, (bold hb9wd _ _ (by omega)).trans S0.1.2.2.2.2.2.2.2.2.2.2.2.2.1, (bold hb9wd _ _ (by omega)).trans S0.1.2.2.2.2.2.2.2.2.2.2.2.2.2.1, (bold hb9wd _ _ (by omega)).trans S0.1.2.2.2.2.2.2.2.2.2.2.2.2.2.2.1, (bold hb9wd _ _ (by omega)).trans S0.1.2.2.2.2.2.2.2.2.2.2.2.2.2.2.2.1, (bold hb9wd _ _ (by omega)).trans S0.1.2.2.2.2.2.2.2.2.2.2.2.2.2.2.2.2.1, (bold hb9wd _ _ (by omega)).trans S0.1.2.2.2.2.2.2.2.2.2.2.2.2.2.2.2.2.2.1, (bold hb9wd _ _ (by omega)).trans S0.1.2.2.2.2.2.2.2.2.2.2.2.2.2.2.2.2.2.2.1, (bold hb9wd _ _ (by omega)).trans S0.1.2.2.2.2.2.2.2.2.2.2.2.2.2.2.2.2.2.2.2.1, (bold hb9wd _ _ (by omega)).trans S0.1.2.2.2.2.2.2.2.2.2.2.2.2.2.2.2.2.2.2.2.2.1, (bold hb9wd _ _ (by omega)).trans S0.1.2.2.2.2.2.2.2.2.2.2.2.2.2.2.2.2.2.2.2.2.2.1, (bold hb9wd _ _ (by omega)).trans S0.1.2.2.2.2.2.2.2.2.2.2.2.2.2.2.2.2.2.2.2.2.2.2.1, (bold hb9wd _ _ (by omega)).trans S0.1.2.2.2.2.2.2.2.2.2.2.2.2.2.2.2.2.2.2.2.2.2.2.2.1, (bold hb9wd _ _ (by omega)).trans S0.1.2.2.2.2.2.2.2.2.2.2.2.2.2.2.2.2.2.2.2.2.2.2.2.2.1, (bold hb9wd _ _ (by omega)).trans S0.1.2.2.2.2.2.2.2.2.2.2.2.2.2.2.2.2.2.2.2.2.2.2.2.2.2.1, (bold hb9wd _ _ (by omega)).trans S0.1.2.2.2.2.2.2.2.2.2.2.2.2.2.2.2.2.2.2.2.2.2.2.2.2.2.2.1, (bold hb9wd _ _ (by omega)).trans S0.1.2.2.2.2.2.2.2.2.2.2.2.2.2.2.2.2.2.2.2.2.2.2.2.2.2.2.2⟩, hb9wd⟩
      clear hb8
      go_wp2_with fail
      refine hK.out _ _ Swd (fun _ => ?_)
      clear hK K
      try simp only [Act.put, l9a, l9z, l9s]
      refine tk9 (i := 29) (some 110) (.bool true) rfl rfl (fun W hSw => ?_) Swd ?_
      · (try dsimp only at hSw); go_simp <;> with_reducible rfl
      try simp only [Act.put, l9a, l9z, l9s]
      refine tk9 (i := 30) (some 111) (.bool true) rfl rfl (fun W hSw => ?_) Swd ?_
      · (try dsimp only at hSw); go_simp <;> with_reducible rfl
      try simp only [Act.put, l9a, l9z, l9s]
      refine wpAnyH_done (by kernel_rfl) ?_ _
      have hbreg : Below w2.heap.size w2 wd := Swd.2
      clear S0 Swc hb9wc Swd hb9wd
      go_wp2_with fail
      go_ret
      exact ⟨rbool (by rw [HP2.out, HSV.out, HSE.out]; simp [g4]), bthen BB.out hbreg⟩
  · have hsv : stayB n k p = (p.since == 0 && p.ext == 0 && p.ls == 0 && p.ln == 0 && p.lt == 0 && p.lp == 0 && p.lu == 0 && p.who == 0 && p.fee == 0) := by unfold stayB; rw [if_pos hu]
    have HSV := Lib.hid hsv; clear hsv
    have q0 := has_cell K.out 0 rfl; have q1 := has_cell K.out 1 rfl; have q2 := has_cell K.out 2 rfl; have q3 := has_cell K.out 3 rfl; have q4 := has_cell K.out 4 rfl; have q5 := has_cell K.out 5 rfl; have q6 := has_cell K.out 6 rfl; have q7 := has_cell K.out 7 rfl; have q8 := has_cell K.out 8 rfl; have q9 := has_cell K.out 9 rfl; have q10 := has_cell K.out 10 rfl; have q11 := has_cell K.out 11 rfl; have q12 := has_cell K.out 12 rfl; have ql := has_lt K.out
    cases a1 : (p.since == 0)
    · go_wp2_with fail
      go_ret
      exact ⟨rbool (by rw [HP2.out, HSV.out]; simp [a1]), BB.out⟩
    cases a2 : (p.ext == 0)
    · go_wp2_with fail
      go_ret
      exact ⟨rbool (by rw [HP2.out, HSV.out]; simp [a2]), BB.out⟩
    cases a3 : (p.who == 0)
    · go_wp2_with fail
      go_ret
      exact ⟨rbool (by rw [HP2.out, HSV.out]; simp [a3]), BB.out⟩
    cases a4 : (p.fee == 0)
    · go_wp2_with fail
      go_ret
      exact ⟨rbool (by rw [HP2.out, HSV.out]; simp [a4]), BB.out⟩
    cases b1 : (p.ls == 0)
    · go_wp2_with fail
      go_ret
      exact ⟨rbool (by rw [HP2.out, HSV.out]; simp [b1]), BB.out⟩
    cases b2 : (p.ln == 0)
    · go_wp2_with fail
      go_ret
      exact ⟨rbool (by rw [HP2.out, HSV.out]; simp [b2]), BB.out⟩
    cases b3 : (p.lt == 0)
    · go_wp2_with fail
      go_ret
      exact ⟨rbool (by rw [HP2.out, HSV.out]; simp [b3]), BB.out⟩
    cases b4 : (p.lp == 0)
    · go_wp2_with fail
      go_ret
      exact ⟨rbool (by rw [HP2.out, HSV.out]; simp [b4]), BB.out⟩
    cases b5 : (p.lu == 0)
    · go_wp2_with fail
      go_ret
      exact ⟨rbool (by rw [HP2.out, HSV.out]; simp [b5]), BB.out⟩
    go_wp2_with fail
    go_ret
    exact ⟨rbool (by rw [HP2.out, HSV.out, a1, a2, a3, a4, b1, b2, b3, b4, b5]; rfl), BB.out⟩
end Go.Proofs.YtjpkpfmpjgeeiaaGreat
