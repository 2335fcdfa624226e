
/- Chapter 9: the program's parcelsOk (gen_npw.py). -/
import Derived.Test.YtjpkpfmpjgeeiaaGreatQ41
import Derived.Test.YtjpkpfmpjgeeiaaGreatQ33
import Derived.Deep.DeepCutAuto
namespace Go.Proofs.YtjpkpfmpjgeeiaaGreat
open Go.RowKit
set_option linter.unusedVariables false
set_option maxRecDepth 100000
set_option maxHeartbeats 8000000 in
theorem parsI_any (w : World) (g o B : Nat) (n : Net) (H : NetIn w g o n) (hB : B ≤ w.heap.size) (hV : NetV w B n) (hl : n.pc.length ≤ 12) (ht : termsB n.tm = true) :
    Calls Tryz.prog 47 #[.pointer (some ⟨g, o, none⟩)] w (Tells (∀ (i : Nat) (p : Pc), n.pc[i]? = some p → parB n i p = true) w) := by
  have hcb := cap_bd ht
  have hcr := ((terms_iff n.tm).1 ht).2.2.2.2.2.1
  have hcc : 0 ≤ n.tm.cap ∧ n.tm.cap ≤ 100000000 := by have := ((terms_iff n.tm).1 ht); omega
  have HCB := Lib.hid hcb; have HCC := Lib.hid hcc; clear hcb hcr hcc ht
  have HV := Lib.hid hV; have HH := Lib.hid H; have hl1 := hV.l1; clear hV H
  have nc12 := HH.out.c 12 _ rfl
  have gl := HH.out.lt
  go_enter Tryz.func47, Tryz.ntmps47
  go_wp2_with fail
  clear nc12 gl
  go_loopw [10] (fun i wr => ∃ k : Nat, k ≤ n.pc.length ∧ i = .int .i64 (k : Int) ∧ (∀ (j : Nat) (p : Pc), j < k → n.pc[j]? = some p → parB n j p = true) ∧ Below w.heap.size w wr) (fun i _ => n.pc.length - (intOf i).toNat)
  case atStart => exact ⟨0, Nat.zero_le _, rfl, fun j p h => by omega, Below.refl _ _⟩
  case round =>
    obtain ⟨k, hk, rfl, hall, hb⟩ := hrel
    have HALL := Lib.hid hall; clear hall
    have hsz := hb.size
    have BR := Lib.hid hb; clear hb
    by_cases hlt : k < n.pc.length
    · obtain ⟨b, off, p, hA, hbB, hp, hc0, hc1, hc2, hc3, hc4, hc5, hc6, hc7, hc8, hc9, hc10, hc11, hc12⟩ := ((HV.out.later hB BR.out).pl).at_ hlt
      have hno : parB n k p = false → ¬ (∀ (i : Nat) (p : Pc), n.pc[i]? = some p → parB n i p = true) := fun h g => by rw [g k p hp] at h; cases h
      have hye : parB n k p = true → ∀ (j : Nat) (x : Pc), j < k + 1 → n.pc[j]? = some x → parB n j x = true := fun h j x hj hx => by
        by_cases e : j = k
        · subst e; rw [hp] at hx; injection hx with hx; subst hx; exact h
        · exact HALL.out j x (by omega) hx
      have HNO := Lib.hid hno; have HYE := Lib.hid hye; have HP := Lib.hid hp; clear hno hye hp
      have hkk0 : (0 : Int) ≤ (k : Int) := by omega
      have hkk1 : (k : Int) < (n.pc.length : Int) := by omega
      have hbw : b < wr.heap.size := by omega
      rw [hA]
      clear hA
      go_upto_region 4 with fail
      clear hc0 hc1 hc2 hc3 hc4 hc5 hc6 hc7 hc8 hc9 hc10 hc11 hc12
      generalize hW : wr.alloc (.cells #[.int .i64 p.size, .int .i64 p.owner, .int .i64 p.site, .int .i64 p.stage, .int .i64 p.since, .int .i64 p.ext, .int .i64 p.ls, .int .i64 p.ln, .int .i64 p.lt, .int .i64 p.lp, .int .i64 p.lu, .int .i64 p.who, .int .i64 p.fee] 55) = w1
      have b1 : Below wr.heap.size wr w1 := by rw [← hW]; exact balloc _ _
      have k1 : Has w1 wr.heap.size 55 #[.int .i64 p.size, .int .i64 p.owner, .int .i64 p.site, .int .i64 p.stage, .int .i64 p.since, .int .i64 p.ext, .int .i64 p.ls, .int .i64 p.ln, .int .i64 p.lt, .int .i64 p.lp, .int .i64 p.lu, .int .i64 p.who, .int .i64 p.fee] := by rw [← hW]; exact has_new _ _ _
      clear hW
      have hs1 := b1.size
      have BB := Lib.hid (bthen BR.out b1); have K := Lib.hid k1; clear k1 b1
      have q0 := has_cell K.out 0 rfl; have q1 := has_cell K.out 1 rfl; have q2 := has_cell K.out 2 rfl; have q3 := has_cell K.out 3 rfl; have ql := has_lt K.out
      go_wp2_with fail
      refine (isSize_any _ p.size).mono ?_
      rintro e w' ⟨rfl, hw⟩
      rw [hw]; clear hw
      rw [show inB p.size 1 24 = inR p.size 1 24 from rfl]
      cases h1 : inR p.size 1 24
      · go_wp2_with fail
        go_ret
        exact tells_no (HNO.out (by unfold parB; rw [h1]; simp)) BB.out
      go_wp2_with fail
      refine (perI_any _ p.owner).mono ?_
      rintro e w' ⟨rfl, hw⟩
      rw [hw]; clear hw
      cases h2 : perB p.owner
      · go_wp2_with fail
        go_ret
        exact tells_no (HNO.out (by unfold parB; rw [h1, h2]; simp)) BB.out
      go_wp2_with fail
      refine (hasS_any _ g o n p.site (HH.out.later BB.out)).mono ?_
      rintro e w' ⟨rfl, hw⟩
      rw [hw]; clear hw
      cases h3 : (decide (0 ≤ p.site) && decide (p.site < (n.st.length : Int)))
      · go_wp2_with fail
        go_ret
        exact tells_no (HNO.out (by unfold parB; rw [h1, h2, h3]; simp)) BB.out
      by_cases c4 : p.stage < 0
      · have h4 : inR p.stage 0 5 = false := by unfold inR; simp; omega
        go_wp2_with fail
        go_ret
        exact tells_no (HNO.out (by unfold parB; rw [h1, h2, h3, h4]; simp)) BB.out
      by_cases c5 : 5 < p.stage
      · have h4 : inR p.stage 0 5 = false := by unfold inR; simp; omega
        go_wp2_with fail
        go_ret
        exact tells_no (HNO.out (by unfold parB; rw [h1, h2, h3, h4]; simp)) BB.out
      have h4 : inR p.stage 0 5 = true := inR_iff.2 ⟨by omega, by omega⟩
      have hsr : 0 ≤ p.site ∧ p.site < n.st.length := by simpa using h3
      have hpe : parB n k p = ((!(p.stage == 2) || parAt n.st p.site == (k : Int) + 1) && stayB n k p) := by unfold parB; rw [h1, h2, h3, h4]; simp only [Bool.true_and]
      have HPE := Lib.hid hpe; clear hpe
      go_upto_region 6 with fail
      clear q0 q1 q2 q3 ql c4 c5 h1 h2 h3 h4
      have HST := Lib.hid (fun W (hb9 : Below w1.heap.size w1 W) => stayI_any W g o B n k p HP.out (HH.out.later (bthen BB.out hb9)) (by have := hb9.size; omega) (HV.out.later hB (bthen BB.out hb9)) hl HCB.out HCC.out (fun _ => hsr))
      obtain ⟨j, hj⟩ := Int.eq_ofNat_of_zero_le hsr.1
      have hjl : j < n.st.length := by omega
      obtain ⟨b2, off2, y, hA2, hbB2, hy, sc0, sc1, sc2, sc3, sc4, sc5, sc6, sc7, sc8, sc9, sc10⟩ := ((HV.out.later hB (bthen BB.out (Below.refl _ _).drew)).si).at_ hjl
      have hpa : parAt n.st p.site = y.par := by rw [hj]; exact parAt_eq hy
      have hbw2 : b2 < w1.heap.size := by omega
      have hjj0 : (0 : Int) ≤ (j : Int) := by omega
      have hjj1 : (j : Int) < (n.st.length : Int) := by omega
      clear sc0 sc1 sc2 sc3 sc4 sc5 sc6 sc7 sc9 sc10 hy hbB2
      rw [hpa] at HPE
      clear hpa
      have hgl := (HH.out.later BB.out).lt
      have hkl2 := has_lt K.out
      have HSC := Lib.hid sc8; have HA2 := Lib.hid hA2; have HJ := Lib.hid hj; clear sc8 hA2 hj hsr
      cases h2 : (p.stage == 2)
      · skip
        cases h9 : stayB n k p
        · skip
          have pc2 := has_cell (has_drew K.out) 2 rfl; have pc3 := has_cell (has_drew K.out) 3 rfl
          simp only [List.getElem_toArray, List.getElem_cons_succ, List.getElem_cons_zero] at pc2
          rw [HJ.out] at pc2
          have nc11 := (HH.out.later (bthen BB.out (Below.refl _ _).drew)).c 11 _ rfl
          rw [HA2.out] at nc11
          have sc8 := HSC.out
          have S0 : (fun W : World => (W.cell? ⟨wr.heap.size, 2, none⟩ = some (.int .i64 (j : Int)) ∧ W.cell? ⟨wr.heap.size, 3, none⟩ = some (.int .i64 p.stage) ∧ W.cell? ⟨g, o + 11, none⟩ = some (.slice (some ⟨b2, off2, none⟩) n.st.length n.cS) ∧ W.cell? ⟨b2, off2 + j * 11 + 8, none⟩ = some (.int .i64 y.par)) ∧ Below w1.heap.size w1 W) w1.drew := ⟨⟨pc2, pc3, nc11, sc8⟩, (Below.refl _ _).drew⟩
          clear pc2 pc3 nc11 sc8
          refine wp_region_held_drew (S := (fun W : World => (W.cell? ⟨wr.heap.size, 2, none⟩ = some (.int .i64 (j : Int)) ∧ W.cell? ⟨wr.heap.size, 3, none⟩ = some (.int .i64 p.stage) ∧ W.cell? ⟨g, o + 11, none⟩ = some (.slice (some ⟨b2, off2, none⟩) n.st.length n.cS) ∧ W.cell? ⟨b2, off2 + j * 11 + 8, none⟩ = some (.int .i64 y.par)) ∧ Below w1.heap.size w1 W)) (by kernel_rfl) S0 (fun _ => ?_)
          refine tk9 (i := 0) (some 42) (.pointer (some ⟨wr.heap.size, 3, none⟩)) rfl rfl (fun W hSw => ?_) S0 ?_
          · (try dsimp only at hSw); go_simp <;> with_reducible rfl
          try simp only [Act.put, l9a, l9z, l9s]
          refine tk9 (i := 1) (some 43) (.int .i64 p.stage) rfl rfl (fun W hSw => ?_) S0 ?_
          · (try dsimp only at hSw); go_simp <;> with_reducible rfl
          try simp only [Act.put, l9a, l9z, l9s]
          refine tk9 (i := 2) (some 44) (.bool false) rfl rfl (fun W hSw => ?_) S0 ?_
          · (try dsimp only at hSw); go_simp <;> with_reducible rfl
          try simp only [Act.put, l9a, l9z, l9s]
          refine tk9 (i := 3) (some 45) (.bool false) rfl rfl (fun W hSw => ?_) S0 ?_
          · (try dsimp only at hSw); go_simp <;> with_reducible rfl
          try simp only [Act.put, l9a, l9z, l9s]
          refine sk9 (i := 4) (some 46) rfl rfl S0 ?_
          try simp only [Act.put, l9a, l9z, l9s]
          refine sk9 (i := 5) (some 47) rfl rfl S0 ?_
          try simp only [Act.put, l9a, l9z, l9s]
          refine sk9 (i := 6) (some 48) rfl rfl S0 ?_
          try simp only [Act.put, l9a, l9z, l9s]
          refine sk9 (i := 7) (some 49) rfl rfl S0 ?_
          try simp only [Act.put, l9a, l9z, l9s]
          refine sk9 (i := 8) (some 50) rfl rfl S0 ?_
          try simp only [Act.put, l9a, l9z, l9s]
          refine sk9 (i := 9) (some 51) rfl rfl S0 ?_
          try simp only [Act.put, l9a, l9z, l9s]
          refine sk9 (i := 10) (some 52) rfl rfl S0 ?_
          try simp only [Act.put, l9a, l9z, l9s]
          refine sk9 (i := 11) (some 53) rfl rfl S0 ?_
          try simp only [Act.put, l9a, l9z, l9s]
          refine sk9 (i := 12) (some 54) rfl rfl S0 ?_
          try simp only [Act.put, l9a, l9z, l9s]
          refine sk9 (i := 13) (some 55) rfl rfl S0 ?_
          try simp only [Act.put, l9a, l9z, l9s]
          refine sk9 (i := 14) (some 56) rfl rfl S0 ?_
          try simp only [Act.put, l9a, l9z, l9s]
          refine sk9 (i := 15) (some 57) rfl rfl S0 ?_
          try simp only [Act.put, l9a, l9z, l9s]
          refine tk9 (i := 16) (some 58) (.bool false) rfl rfl (fun W hSw => ?_) S0 ?_
          · (try dsimp only at hSw); go_simp <;> with_reducible rfl
          try simp only [Act.put, l9a, l9z, l9s]
          refine tk9 (i := 17) (some 59) (.bool false) rfl rfl (fun W hSw => ?_) S0 ?_
          · (try dsimp only at hSw); go_simp <;> with_reducible rfl
          try simp only [Act.put, l9a, l9z, l9s]
          refine tk9 (i := 18) (some 60) (.pointer (some ⟨g, o, none⟩)) rfl rfl (fun W hSw => ?_) S0 ?_
          · (try dsimp only at hSw); go_simp <;> with_reducible rfl
          try simp only [Act.put, l9a, l9z, l9s]
          refine tk9 (i := 19) (some 61) (.int .i64 (k : Int)) rfl rfl (fun W hSw => ?_) S0 ?_
          · (try dsimp only at hSw); go_simp <;> with_reducible rfl
          try simp only [Act.put, l9a, l9z, l9s]
          refine tk9 (i := 20) (some 62) (.int .i64 ((k : Int) + 1)) rfl rfl (fun W hSw => ?_) S0 ?_
          · (try dsimp only at hSw); go_simp <;> (first | with_reducible rfl | exact IntWalk.i64_in _ (by omega))
          try simp only [Act.put, l9a, l9z, l9s]
          refine wpAnyH_ready (rs := [21]) (by kernel_rfl) (by simp) ?_
          refine AllReadyH.cons rfl (fun K hK => ?_) AllReadyH.nil
          go_simp
          go_at_call 86
          refine (HST.out _ S0.2).mono ?_
          rintro e wa ⟨rfl, hb8⟩
          rw [h9]
          have hb9wa : Below w1.heap.size w1 wa := bthen ((Below.refl _ _).drew : Below w1.heap.size w1 w1.drew) hb8
          have Swa : (fun W : World => (W.cell? ⟨wr.heap.size, 2, none⟩ = some (.int .i64 (j : Int)) ∧ W.cell? ⟨wr.heap.size, 3, none⟩ = some (.int .i64 p.stage) ∧ W.cell? ⟨g, o + 11, none⟩ = some (.slice (some ⟨b2, off2, none⟩) n.st.length n.cS) ∧ W.cell? ⟨b2, off2 + j * 11 + 8, none⟩ = some (.int .i64 y.par)) ∧ Below w1.heap.size w1 W) wa := ⟨⟨(bold hb9wa _ _ (by omega)).trans S0.1.1, (bold hb9wa _ _ (by omega)).trans S0.1.2.1, (bold hb9wa _ _ (by omega)).trans S0.1.2.2.1, (bold hb9wa _ _ (by omega)).trans S0.1.2.2.2⟩, hb9wa⟩
          clear hb8
          go_wp2_with fail
          refine hK.out _ _ Swa (fun _ => ?_)
          clear hK K
          try simp only [Act.put, l9a, l9z, l9s]
          refine tk9 (i := 22) (some 64) (.bool true) rfl rfl (fun W hSw => ?_) Swa ?_
          · (try dsimp only at hSw); go_simp <;> with_reducible rfl
          try simp only [Act.put, l9a, l9z, l9s]
          refine tk9 (i := 23) (some 65) (.bool true) rfl rfl (fun W hSw => ?_) Swa ?_
          · (try dsimp only at hSw); go_simp <;> with_reducible rfl
          try simp only [Act.put, l9a, l9z, l9s]
          refine wpAnyH_done (by kernel_rfl) ?_ _
          have hbreg : Below w1.heap.size w1 wa := Swa.2
          clear S0 Swa hb9wa
          go_wp2_with fail
          go_ret
          exact tells_no (HNO.out (by rw [HPE.out]; simp [h2, h9])) (bthen BB.out hbreg)
        · skip
          have pc2 := has_cell (has_drew K.out) 2 rfl; have pc3 := has_cell (has_drew K.out) 3 rfl
          simp only [List.getElem_toArray, List.getElem_cons_succ, List.getElem_cons_zero] at pc2
          rw [HJ.out] at pc2
          have nc11 := (HH.out.later (bthen BB.out (Below.refl _ _).drew)).c 11 _ rfl
          rw [HA2.out] at nc11
          have sc8 := HSC.out
          have S0 : (fun W : World => (W.cell? ⟨wr.heap.size, 2, none⟩ = some (.int .i64 (j : Int)) ∧ W.cell? ⟨wr.heap.size, 3, none⟩ = some (.int .i64 p.stage) ∧ W.cell? ⟨g, o + 11, none⟩ = some (.slice (some ⟨b2, off2, none⟩) n.st.length n.cS) ∧ W.cell? ⟨b2, off2 + j * 11 + 8, none⟩ = some (.int .i64 y.par)) ∧ Below w1.heap.size w1 W) w1.drew := ⟨⟨pc2, pc3, nc11, sc8⟩, (Below.refl _ _).drew⟩
          clear pc2 pc3 nc11 sc8
          refine wp_region_held_drew (S := (fun W : World => (W.cell? ⟨wr.heap.size, 2, none⟩ = some (.int .i64 (j : Int)) ∧ W.cell? ⟨wr.heap.size, 3, none⟩ = some (.int .i64 p.stage) ∧ W.cell? ⟨g, o + 11, none⟩ = some (.slice (some ⟨b2, off2, none⟩) n.st.length n.cS) ∧ W.cell? ⟨b2, off2 + j * 11 + 8, none⟩ = some (.int .i64 y.par)) ∧ Below w1.heap.size w1 W)) (by kernel_rfl) S0 (fun _ => ?_)
          refine tk9 (i := 0) (some 42) (.pointer (some ⟨wr.heap.size, 3, none⟩)) rfl rfl (fun W hSw => ?_) S0 ?_
          · (try dsimp only at hSw); go_simp <;> with_reducible rfl
          try simp only [Act.put, l9a, l9z, l9s]
          refine tk9 (i := 1) (some 43) (.int .i64 p.stage) rfl rfl (fun W hSw => ?_) S0 ?_
          · (try dsimp only at hSw); go_simp <;> with_reducible rfl
          try simp only [Act.put, l9a, l9z, l9s]
          refine tk9 (i := 2) (some 44) (.bool false) rfl rfl (fun W hSw => ?_) S0 ?_
          · (try dsimp only at hSw); go_simp <;> with_reducible rfl
          try simp only [Act.put, l9a, l9z, l9s]
          refine tk9 (i := 3) (some 45) (.bool false) rfl rfl (fun W hSw => ?_) S0 ?_
          · (try dsimp only at hSw); go_simp <;> with_reducible rfl
          try simp only [Act.put, l9a, l9z, l9s]
          refine sk9 (i := 4) (some 46) rfl rfl S0 ?_
          try simp only [Act.put, l9a, l9z, l9s]
          refine sk9 (i := 5) (some 47) rfl rfl S0 ?_
          try simp only [Act.put, l9a, l9z, l9s]
          refine sk9 (i := 6) (some 48) rfl rfl S0 ?_
          try simp only [Act.put, l9a, l9z, l9s]
          refine sk9 (i := 7) (some 49) rfl rfl S0 ?_
          try simp only [Act.put, l9a, l9z, l9s]
          refine sk9 (i := 8) (some 50) rfl rfl S0 ?_
          try simp only [Act.put, l9a, l9z, l9s]
          refine sk9 (i := 9) (some 51) rfl rfl S0 ?_
          try simp only [Act.put, l9a, l9z, l9s]
          refine sk9 (i := 10) (some 52) rfl rfl S0 ?_
          try simp only [Act.put, l9a, l9z, l9s]
          refine sk9 (i := 11) (some 53) rfl rfl S0 ?_
          try simp only [Act.put, l9a, l9z, l9s]
          refine sk9 (i := 12) (some 54) rfl rfl S0 ?_
          try simp only [Act.put, l9a, l9z, l9s]
          refine sk9 (i := 13) (some 55) rfl rfl S0 ?_
          try simp only [Act.put, l9a, l9z, l9s]
          refine sk9 (i := 14) (some 56) rfl rfl S0 ?_
          try simp only [Act.put, l9a, l9z, l9s]
          refine sk9 (i := 15) (some 57) rfl rfl S0 ?_
          try simp only [Act.put, l9a, l9z, l9s]
          refine tk9 (i := 16) (some 58) (.bool false) rfl rfl (fun W hSw => ?_) S0 ?_
          · (try dsimp only at hSw); go_simp <;> with_reducible rfl
          try simp only [Act.put, l9a, l9z, l9s]
          refine tk9 (i := 17) (some 59) (.bool false) rfl rfl (fun W hSw => ?_) S0 ?_
          · (try dsimp only at hSw); go_simp <;> with_reducible rfl
          try simp only [Act.put, l9a, l9z, l9s]
          refine tk9 (i := 18) (some 60) (.pointer (some ⟨g, o, none⟩)) rfl rfl (fun W hSw => ?_) S0 ?_
          · (try dsimp only at hSw); go_simp <;> with_reducible rfl
          try simp only [Act.put, l9a, l9z, l9s]
          refine tk9 (i := 19) (some 61) (.int .i64 (k : Int)) rfl rfl (fun W hSw => ?_) S0 ?_
          · (try dsimp only at hSw); go_simp <;> with_reducible rfl
          try simp only [Act.put, l9a, l9z, l9s]
          refine tk9 (i := 20) (some 62) (.int .i64 ((k : Int) + 1)) rfl rfl (fun W hSw => ?_) S0 ?_
          · (try dsimp only at hSw); go_simp <;> (first | with_reducible rfl | exact IntWalk.i64_in _ (by omega))
          try simp only [Act.put, l9a, l9z, l9s]
          refine wpAnyH_ready (rs := [21]) (by kernel_rfl) (by simp) ?_
          refine AllReadyH.cons rfl (fun K hK => ?_) AllReadyH.nil
          go_simp
          go_at_call 86
          refine (HST.out _ S0.2).mono ?_
          rintro e wa ⟨rfl, hb8⟩
          rw [h9]
          have hb9wa : Below w1.heap.size w1 wa := bthen ((Below.refl _ _).drew : Below w1.heap.size w1 w1.drew) hb8
          have Swa : (fun W : World => (W.cell? ⟨wr.heap.size, 2, none⟩ = some (.int .i64 (j : Int)) ∧ W.cell? ⟨wr.heap.size, 3, none⟩ = some (.int .i64 p.stage) ∧ W.cell? ⟨g, o + 11, none⟩ = some (.slice (some ⟨b2, off2, none⟩) n.st.length n.cS) ∧ W.cell? ⟨b2, off2 + j * 11 + 8, none⟩ = some (.int .i64 y.par)) ∧ Below w1.heap.size w1 W) wa := ⟨⟨(bold hb9wa _ _ (by omega)).trans S0.1.1, (bold hb9wa _ _ (by omega)).trans S0.1.2.1, (bold hb9wa _ _ (by omega)).trans S0.1.2.2.1, (bold hb9wa _ _ (by omega)).trans S0.1.2.2.2⟩, hb9wa⟩
          clear hb8
          go_wp2_with fail
          refine hK.out _ _ Swa (fun _ => ?_)
          clear hK K
          try simp only [Act.put, l9a, l9z, l9s]
          refine tk9 (i := 22) (some 64) (.bool false) rfl rfl (fun W hSw => ?_) Swa ?_
          · (try dsimp only at hSw); go_simp <;> with_reducible rfl
          try simp only [Act.put, l9a, l9z, l9s]
          refine tk9 (i := 23) (some 65) (.bool false) rfl rfl (fun W hSw => ?_) Swa ?_
          · (try dsimp only at hSw); go_simp <;> with_reducible rfl
          try simp only [Act.put, l9a, l9z, l9s]
          refine wpAnyH_done (by kernel_rfl) ?_ _
          have hbreg : Below w1.heap.size w1 wa := Swa.2
          clear S0 Swa hb9wa
          have HY9 := Lib.hid (HYE.out (by rw [HPE.out]; simp [h2, h9]))
          go_wp2_with fail
          go_roundw
          case rel => exact ⟨k + 1, by omega, by go_num, HY9.out, bthen BB.out hbreg⟩
          case measure => simp [intOf]; omega
      · cases h5 : (y.par == (k : Int) + 1)
        · have e5 : (y.par != (k : Int) + 1) = true := by simpa using h5
          have pc2 := has_cell (has_drew K.out) 2 rfl; have pc3 := has_cell (has_drew K.out) 3 rfl
          simp only [List.getElem_toArray, List.getElem_cons_succ, List.getElem_cons_zero] at pc2
          rw [HJ.out] at pc2
          have nc11 := (HH.out.later (bthen BB.out (Below.refl _ _).drew)).c 11 _ rfl
          rw [HA2.out] at nc11
          have sc8 := HSC.out
          have S0 : (fun W : World => (W.cell? ⟨wr.heap.size, 2, none⟩ = some (.int .i64 (j : Int)) ∧ W.cell? ⟨wr.heap.size, 3, none⟩ = some (.int .i64 p.stage) ∧ W.cell? ⟨g, o + 11, none⟩ = some (.slice (some ⟨b2, off2, none⟩) n.st.length n.cS) ∧ W.cell? ⟨b2, off2 + j * 11 + 8, none⟩ = some (.int .i64 y.par)) ∧ Below w1.heap.size w1 W) w1.drew := ⟨⟨pc2, pc3, nc11, sc8⟩, (Below.refl _ _).drew⟩
          clear pc2 pc3 nc11 sc8
          refine wp_region_held_drew (S := (fun W : World => (W.cell? ⟨wr.heap.size, 2, none⟩ = some (.int .i64 (j : Int)) ∧ W.cell? ⟨wr.heap.size, 3, none⟩ = some (.int .i64 p.stage) ∧ W.cell? ⟨g, o + 11, none⟩ = some (.slice (some ⟨b2, off2, none⟩) n.st.length n.cS) ∧ W.cell? ⟨b2, off2 + j * 11 + 8, none⟩ = some (.int .i64 y.par)) ∧ Below w1.heap.size w1 W)) (by kernel_rfl) S0 (fun _ => ?_)
          refine tk9 (i := 0) (some 42) (.pointer (some ⟨wr.heap.size, 3, none⟩)) rfl rfl (fun W hSw => ?_) S0 ?_
          · (try dsimp only at hSw); go_simp <;> with_reducible rfl
          try simp only [Act.put, l9a, l9z, l9s]
          refine tk9 (i := 1) (some 43) (.int .i64 p.stage) rfl rfl (fun W hSw => ?_) S0 ?_
          · (try dsimp only at hSw); go_simp <;> with_reducible rfl
          try simp only [Act.put, l9a, l9z, l9s]
          refine tk9 (i := 2) (some 44) (.bool true) rfl rfl (fun W hSw => ?_) S0 ?_
          · (try dsimp only at hSw); go_simp <;> with_reducible rfl
          try simp only [Act.put, l9a, l9z, l9s]
          refine tk9 (i := 3) (some 45) (.bool true) rfl rfl (fun W hSw => ?_) S0 ?_
          · (try dsimp only at hSw); go_simp <;> with_reducible rfl
          try simp only [Act.put, l9a, l9z, l9s]
          refine tk9 (i := 4) (some 46) (.pointer (some ⟨g, o, none⟩)) rfl rfl (fun W hSw => ?_) S0 ?_
          · (try dsimp only at hSw); go_simp <;> with_reducible rfl
          try simp only [Act.put, l9a, l9z, l9s]
          refine tk9 (i := 5) (some 47) (.pointer (some ⟨g, o, none⟩)) rfl rfl (fun W hSw => ?_) S0 ?_
          · (try dsimp only at hSw); go_simp <;> with_reducible rfl
          try simp only [Act.put, l9a, l9z, l9s]
          refine tk9 (i := 6) (some 48) (.pointer (some ⟨g, o + 11, none⟩)) rfl rfl (fun W hSw => ?_) S0 ?_
          · (try dsimp only at hSw); go_simp <;> with_reducible rfl
          try simp only [Act.put, l9a, l9z, l9s]
          refine tk9 (i := 7) (some 49) (.slice (some ⟨b2, off2, none⟩) n.st.length n.cS) rfl rfl (fun W hSw => ?_) S0 ?_
          · (try dsimp only at hSw); go_simp <;> with_reducible rfl
          try simp only [Act.put, l9a, l9z, l9s]
          refine tk9 (i := 8) (some 50) (.pointer (some ⟨wr.heap.size, 2, none⟩)) rfl rfl (fun W hSw => ?_) S0 ?_
          · (try dsimp only at hSw); go_simp <;> with_reducible rfl
          try simp only [Act.put, l9a, l9z, l9s]
          refine tk9 (i := 9) (some 51) (.int .i64 (j : Int)) rfl rfl (fun W hSw => ?_) S0 ?_
          · (try dsimp only at hSw); go_simp <;> with_reducible rfl
          try simp only [Act.put, l9a, l9z, l9s]
          refine tk9 (i := 10) (some 52) (.pointer (some ⟨b2, off2 + j * 11, none⟩)) rfl rfl (fun W hSw => ?_) S0 ?_
          · (try dsimp only at hSw); go_simp <;> with_reducible rfl
          try simp only [Act.put, l9a, l9z, l9s]
          refine tk9 (i := 11) (some 53) (.pointer (some ⟨b2, off2 + j * 11 + 8, none⟩)) rfl rfl (fun W hSw => ?_) S0 ?_
          · (try dsimp only at hSw); go_simp <;> with_reducible rfl
          try simp only [Act.put, l9a, l9z, l9s]
          refine tk9 (i := 12) (some 54) (.int .i64 y.par) rfl rfl (fun W hSw => ?_) S0 ?_
          · (try dsimp only at hSw); go_simp <;> with_reducible rfl
          try simp only [Act.put, l9a, l9z, l9s]
          refine tk9 (i := 13) (some 55) (.int .i64 (k : Int)) rfl rfl (fun W hSw => ?_) S0 ?_
          · (try dsimp only at hSw); go_simp <;> with_reducible rfl
          try simp only [Act.put, l9a, l9z, l9s]
          refine tk9 (i := 14) (some 56) (.int .i64 ((k : Int) + 1)) rfl rfl (fun W hSw => ?_) S0 ?_
          · (try dsimp only at hSw); go_simp <;> (first | with_reducible rfl | exact IntWalk.i64_in _ (by omega))
          try simp only [Act.put, l9a, l9z, l9s]
          refine tk9 (i := 15) (some 57) (.bool true) rfl rfl (fun W hSw => ?_) S0 ?_
          · (try dsimp only at hSw); go_simp <;> with_reducible rfl
          try simp only [Act.put, l9a, l9z, l9s]
          refine tk9 (i := 16) (some 58) (.bool true) rfl rfl (fun W hSw => ?_) S0 ?_
          · (try dsimp only at hSw); go_simp <;> with_reducible rfl
          try simp only [Act.put, l9a, l9z, l9s]
          refine tk9 (i := 17) (some 59) (.bool true) rfl rfl (fun W hSw => ?_) S0 ?_
          · (try dsimp only at hSw); go_simp <;> with_reducible rfl
          try simp only [Act.put, l9a, l9z, l9s]
          refine sk9 (i := 18) (some 60) rfl rfl S0 ?_
          try simp only [Act.put, l9a, l9z, l9s]
          refine sk9 (i := 19) (some 61) rfl rfl S0 ?_
          try simp only [Act.put, l9a, l9z, l9s]
          refine sk9 (i := 20) (some 62) rfl rfl S0 ?_
          try simp only [Act.put, l9a, l9z, l9s]
          refine sk9 (i := 21) (some 63) rfl rfl S0 ?_
          try simp only [Act.put, l9a, l9z, l9s]
          refine sk9 (i := 22) (some 64) rfl rfl S0 ?_
          try simp only [Act.put, l9a, l9z, l9s]
          refine tk9 (i := 23) (some 65) (.bool true) rfl rfl (fun W hSw => ?_) S0 ?_
          · (try dsimp only at hSw); go_simp <;> with_reducible rfl
          try simp only [Act.put, l9a, l9z, l9s]
          refine wpAnyH_done (by kernel_rfl) ?_ _
          have hbreg : Below w1.heap.size w1 w1.drew := S0.2
          clear S0
          go_wp2_with fail
          go_ret
          exact tells_no (HNO.out (by rw [HPE.out]; simp [h2, h5])) (bthen BB.out hbreg)
        · have e5 : (y.par != (k : Int) + 1) = false := by simpa using h5
          cases h9 : stayB n k p
          · skip
            have pc2 := has_cell (has_drew K.out) 2 rfl; have pc3 := has_cell (has_drew K.out) 3 rfl
            simp only [List.getElem_toArray, List.getElem_cons_succ, List.getElem_cons_zero] at pc2
            rw [HJ.out] at pc2
            have nc11 := (HH.out.later (bthen BB.out (Below.refl _ _).drew)).c 11 _ rfl
            rw [HA2.out] at nc11
            have sc8 := HSC.out
            have S0 : (fun W : World => (W.cell? ⟨wr.heap.size, 2, none⟩ = some (.int .i64 (j : Int)) ∧ W.cell? ⟨wr.heap.size, 3, none⟩ = some (.int .i64 p.stage) ∧ W.cell? ⟨g, o + 11, none⟩ = some (.slice (some ⟨b2, off2, none⟩) n.st.length n.cS) ∧ W.cell? ⟨b2, off2 + j * 11 + 8, none⟩ = some (.int .i64 y.par)) ∧ Below w1.heap.size w1 W) w1.drew := ⟨⟨pc2, pc3, nc11, sc8⟩, (Below.refl _ _).drew⟩
            clear pc2 pc3 nc11 sc8
            refine wp_region_held_drew (S := (fun W : World => (W.cell? ⟨wr.heap.size, 2, none⟩ = some (.int .i64 (j : Int)) ∧ W.cell? ⟨wr.heap.size, 3, none⟩ = some (.int .i64 p.stage) ∧ W.cell? ⟨g, o + 11, none⟩ = some (.slice (some ⟨b2, off2, none⟩) n.st.length n.cS) ∧ W.cell? ⟨b2, off2 + j * 11 + 8, none⟩ = some (.int .i64 y.par)) ∧ Below w1.heap.size w1 W)) (by kernel_rfl) S0 (fun _ => ?_)
            refine tk9 (i := 0) (some 42) (.pointer (some ⟨wr.heap.size, 3, none⟩)) rfl rfl (fun W hSw => ?_) S0 ?_
            · (try dsimp only at hSw); go_simp <;> with_reducible rfl
            try simp only [Act.put, l9a, l9z, l9s]
            refine tk9 (i := 1) (some 43) (.int .i64 p.stage) rfl rfl (fun W hSw => ?_) S0 ?_
            · (try dsimp only at hSw); go_simp <;> with_reducible rfl
            try simp only [Act.put, l9a, l9z, l9s]
            refine tk9 (i := 2) (some 44) (.bool true) rfl rfl (fun W hSw => ?_) S0 ?_
            · (try dsimp only at hSw); go_simp <;> with_reducible rfl
            try simp only [Act.put, l9a, l9z, l9s]
            refine tk9 (i := 3) (some 45) (.bool true) rfl rfl (fun W hSw => ?_) S0 ?_
            · (try dsimp only at hSw); go_simp <;> with_reducible rfl
            try simp only [Act.put, l9a, l9z, l9s]
            refine tk9 (i := 4) (some 46) (.pointer (some ⟨g, o, none⟩)) rfl rfl (fun W hSw => ?_) S0 ?_
            · (try dsimp only at hSw); go_simp <;> with_reducible rfl
            try simp only [Act.put, l9a, l9z, l9s]
            refine tk9 (i := 5) (some 47) (.pointer (some ⟨g, o, none⟩)) rfl rfl (fun W hSw => ?_) S0 ?_
            · (try dsimp only at hSw); go_simp <;> with_reducible rfl
            try simp only [Act.put, l9a, l9z, l9s]
            refine tk9 (i := 6) (some 48) (.pointer (some ⟨g, o + 11, none⟩)) rfl rfl (fun W hSw => ?_) S0 ?_
            · (try dsimp only at hSw); go_simp <;> with_reducible rfl
            try simp only [Act.put, l9a, l9z, l9s]
            refine tk9 (i := 7) (some 49) (.slice (some ⟨b2, off2, none⟩) n.st.length n.cS) rfl rfl (fun W hSw => ?_) S0 ?_
            · (try dsimp only at hSw); go_simp <;> with_reducible rfl
            try simp only [Act.put, l9a, l9z, l9s]
            refine tk9 (i := 8) (some 50) (.pointer (some ⟨wr.heap.size, 2, none⟩)) rfl rfl (fun W hSw => ?_) S0 ?_
            · (try dsimp only at hSw); go_simp <;> with_reducible rfl
            try simp only [Act.put, l9a, l9z, l9s]
            refine tk9 (i := 9) (some 51) (.int .i64 (j : Int)) rfl rfl (fun W hSw => ?_) S0 ?_
            · (try dsimp only at hSw); go_simp <;> with_reducible rfl
            try simp only [Act.put, l9a, l9z, l9s]
            refine tk9 (i := 10) (some 52) (.pointer (some ⟨b2, off2 + j * 11, none⟩)) rfl rfl (fun W hSw => ?_) S0 ?_
            · (try dsimp only at hSw); go_simp <;> with_reducible rfl
            try simp only [Act.put, l9a, l9z, l9s]
            refine tk9 (i := 11) (some 53) (.pointer (some ⟨b2, off2 + j * 11 + 8, none⟩)) rfl rfl (fun W hSw => ?_) S0 ?_
            · (try dsimp only at hSw); go_simp <;> with_reducible rfl
            try simp only [Act.put, l9a, l9z, l9s]
            refine tk9 (i := 12) (some 54) (.int .i64 y.par) rfl rfl (fun W hSw => ?_) S0 ?_
            · (try dsimp only at hSw); go_simp <;> with_reducible rfl
            try simp only [Act.put, l9a, l9z, l9s]
            refine tk9 (i := 13) (some 55) (.int .i64 (k : Int)) rfl rfl (fun W hSw => ?_) S0 ?_
            · (try dsimp only at hSw); go_simp <;> with_reducible rfl
            try simp only [Act.put, l9a, l9z, l9s]
            refine tk9 (i := 14) (some 56) (.int .i64 ((k : Int) + 1)) rfl rfl (fun W hSw => ?_) S0 ?_
            · (try dsimp only at hSw); go_simp <;> (first | with_reducible rfl | exact IntWalk.i64_in _ (by omega))
            try simp only [Act.put, l9a, l9z, l9s]
            refine tk9 (i := 15) (some 57) (.bool false) rfl rfl (fun W hSw => ?_) S0 ?_
            · (try dsimp only at hSw); go_simp <;> with_reducible rfl
            try simp only [Act.put, l9a, l9z, l9s]
            refine tk9 (i := 16) (some 58) (.bool false) rfl rfl (fun W hSw => ?_) S0 ?_
            · (try dsimp only at hSw); go_simp <;> with_reducible rfl
            try simp only [Act.put, l9a, l9z, l9s]
            refine tk9 (i := 17) (some 59) (.bool false) rfl rfl (fun W hSw => ?_) S0 ?_
            · (try dsimp only at hSw); go_simp <;> with_reducible rfl
            try simp only [Act.put, l9a, l9z, l9s]
            refine tk9 (i := 18) (some 60) (.pointer (some ⟨g, o, none⟩)) rfl rfl (fun W hSw => ?_) S0 ?_
            · (try dsimp only at hSw); go_simp <;> with_reducible rfl
            try simp only [Act.put, l9a, l9z, l9s]
            refine tk9 (i := 19) (some 61) (.int .i64 (k : Int)) rfl rfl (fun W hSw => ?_) S0 ?_
            · (try dsimp only at hSw); go_simp <;> with_reducible rfl
            try simp only [Act.put, l9a, l9z, l9s]
            refine tk9 (i := 20) (some 62) (.int .i64 ((k : Int) + 1)) rfl rfl (fun W hSw => ?_) S0 ?_
            · (try dsimp only at hSw); go_simp <;> (first | with_reducible rfl | exact IntWalk.i64_in _ (by omega))
            try simp only [Act.put, l9a, l9z, l9s]
            refine wpAnyH_ready (rs := [21]) (by kernel_rfl) (by simp) ?_
            refine AllReadyH.cons rfl (fun K hK => ?_) AllReadyH.nil
            go_simp
            go_at_call 86
            refine (HST.out _ S0.2).mono ?_
            rintro e wa ⟨rfl, hb8⟩
            rw [h9]
            have hb9wa : Below w1.heap.size w1 wa := bthen ((Below.refl _ _).drew : Below w1.heap.size w1 w1.drew) hb8
            have Swa : (fun W : World => (W.cell? ⟨wr.heap.size, 2, none⟩ = some (.int .i64 (j : Int)) ∧ W.cell? ⟨wr.heap.size, 3, none⟩ = some (.int .i64 p.stage) ∧ W.cell? ⟨g, o + 11, none⟩ = some (.slice (some ⟨b2, off2, none⟩) n.st.length n.cS) ∧ W.cell? ⟨b2, off2 + j * 11 + 8, none⟩ = some (.int .i64 y.par)) ∧ Below w1.heap.size w1 W) wa := ⟨⟨(bold hb9wa _ _ (by omega)).trans S0.1.1, (bold hb9wa _ _ (by omega)).trans S0.1.2.1, (bold hb9wa _ _ (by omega)).trans S0.1.2.2.1, (bold hb9wa _ _ (by omega)).trans S0.1.2.2.2⟩, hb9wa⟩
            clear hb8
            go_wp2_with fail
            refine hK.out _ _ Swa (fun _ => ?_)
            clear hK K
            try simp only [Act.put, l9a, l9z, l9s]
            refine tk9 (i := 22) (some 64) (.bool true) rfl rfl (fun W hSw => ?_) Swa ?_
            · (try dsimp only at hSw); go_simp <;> with_reducible rfl
            try simp only [Act.put, l9a, l9z, l9s]
            refine tk9 (i := 23) (some 65) (.bool true) rfl rfl (fun W hSw => ?_) Swa ?_
            · (try dsimp only at hSw); go_simp <;> with_reducible rfl
            try simp only [Act.put, l9a, l9z, l9s]
            refine wpAnyH_done (by kernel_rfl) ?_ _
            have hbreg : Below w1.heap.size w1 wa := Swa.2
            clear S0 Swa hb9wa
            go_wp2_with fail
            go_ret
            exact tells_no (HNO.out (by rw [HPE.out]; simp [h2, h5, h9])) (bthen BB.out hbreg)
          · skip
            have pc2 := has_cell (has_drew K.out) 2 rfl; have pc3 := has_cell (has_drew K.out) 3 rfl
            simp only [List.getElem_toArray, List.getElem_cons_succ, List.getElem_cons_zero] at pc2
            rw [HJ.out] at pc2
            have nc11 := (HH.out.later (bthen BB.out (Below.refl _ _).drew)).c 11 _ rfl
            rw [HA2.out] at nc11
            have sc8 := HSC.out
            have S0 : (fun W : World => (W.cell? ⟨wr.heap.size, 2, none⟩ = some (.int .i64 (j : Int)) ∧ W.cell? ⟨wr.heap.size, 3, none⟩ = some (.int .i64 p.stage) ∧ W.cell? ⟨g, o + 11, none⟩ = some (.slice (some ⟨b2, off2, none⟩) n.st.length n.cS) ∧ W.cell? ⟨b2, off2 + j * 11 + 8, none⟩ = some (.int .i64 y.par)) ∧ Below w1.heap.size w1 W) w1.drew := ⟨⟨pc2, pc3, nc11, sc8⟩, (Below.refl _ _).drew⟩
            clear pc2 pc3 nc11 sc8
            refine wp_region_held_drew (S := (fun W : World => (W.cell? ⟨wr.heap.size, 2, none⟩ = some (.int .i64 (j : Int)) ∧ W.cell? ⟨wr.heap.size, 3, none⟩ = some (.int .i64 p.stage) ∧ W.cell? ⟨g, o + 11, none⟩ = some (.slice (some ⟨b2, off2, none⟩) n.st.length n.cS) ∧ W.cell? ⟨b2, off2 + j * 11 + 8, none⟩ = some (.int .i64 y.par)) ∧ Below w1.heap.size w1 W)) (by kernel_rfl) S0 (fun _ => ?_)
            refine tk9 (i := 0) (some 42) (.pointer (some ⟨wr.heap.size, 3, none⟩)) rfl rfl (fun W hSw => ?_) S0 ?_
            · (try dsimp only at hSw); go_simp <;> with_reducible rfl
            try simp only [Act.put, l9a, l9z, l9s]
            refine tk9 (i := 1) (some 43) (.int .i64 p.stage) rfl rfl (fun W hSw => ?_) S0 ?_
            · (try dsimp only at hSw); go_simp <;> with_reducible rfl
            try simp only [Act.put, l9a, l9z, l9s]
            refine tk9 (i := 2) (some 44) (.bool true) rfl rfl (fun W hSw => ?_) S0 ?_
            · (try dsimp only at hSw); go_simp <;> with_reducible rfl
            try simp only [Act.put, l9a, l9z, l9s]
            refine tk9 (i := 3) (some 45) (.bool true) rfl rfl (fun W hSw => ?_) S0 ?_
            · (try dsimp only at hSw); go_simp <;> with_reducible rfl
            try simp only [Act.put, l9a, l9z, l9s]
            refine tk9 (i := 4) (some 46) (.pointer (some ⟨g, o, none⟩)) rfl rfl (fun W hSw => ?_) S0 ?_
            · (try dsimp only at hSw); go_simp <;> with_reducible rfl
            try simp only [Act.put, l9a, l9z, l9s]
            refine tk9 (i := 5) (some 47) (.pointer (some ⟨g, o, none⟩)) rfl rfl (fun W hSw => ?_) S0 ?_
            · (try dsimp only at hSw); go_simp <;> with_reducible rfl
            try simp only [Act.put, l9a, l9z, l9s]
            refine tk9 (i := 6) (some 48) (.pointer (some ⟨g, o + 11, none⟩)) rfl rfl (fun W hSw => ?_) S0 ?_
            · (try dsimp only at hSw); go_simp <;> with_reducible rfl
            try simp only [Act.put, l9a, l9z, l9s]
            refine tk9 (i := 7) (some 49) (.slice (some ⟨b2, off2, none⟩) n.st.length n.cS) rfl rfl (fun W hSw => ?_) S0 ?_
            · (try dsimp only at hSw); go_simp <;> with_reducible rfl
            try simp only [Act.put, l9a, l9z, l9s]
            refine tk9 (i := 8) (some 50) (.pointer (some ⟨wr.heap.size, 2, none⟩)) rfl rfl (fun W hSw => ?_) S0 ?_
            · (try dsimp only at hSw); go_simp <;> with_reducible rfl
            try simp only [Act.put, l9a, l9z, l9s]
            refine tk9 (i := 9) (some 51) (.int .i64 (j : Int)) rfl rfl (fun W hSw => ?_) S0 ?_
            · (try dsimp only at hSw); go_simp <;> with_reducible rfl
            try simp only [Act.put, l9a, l9z, l9s]
            refine tk9 (i := 10) (some 52) (.pointer (some ⟨b2, off2 + j * 11, none⟩)) rfl rfl (fun W hSw => ?_) S0 ?_
            · (try dsimp only at hSw); go_simp <;> with_reducible rfl
            try simp only [Act.put, l9a, l9z, l9s]
            refine tk9 (i := 11) (some 53) (.pointer (some ⟨b2, off2 + j * 11 + 8, none⟩)) rfl rfl (fun W hSw => ?_) S0 ?_
            · (try dsimp only at hSw); go_simp <;> with_reducible rfl
            try simp only [Act.put, l9a, l9z, l9s]
            refine tk9 (i := 12) (some 54) (.int .i64 y.par) rfl rfl (fun W hSw => ?_) S0 ?_
            · (try dsimp only at hSw); go_simp <;> with_reducible rfl
            try simp only [Act.put, l9a, l9z, l9s]
            refine tk9 (i := 13) (some 55) (.int .i64 (k : Int)) rfl rfl (fun W hSw => ?_) S0 ?_
            · (try dsimp only at hSw); go_simp <;> with_reducible rfl
            try simp only [Act.put, l9a, l9z, l9s]
            refine tk9 (i := 14) (some 56) (.int .i64 ((k : Int) + 1)) rfl rfl (fun W hSw => ?_) S0 ?_
            · (try dsimp only at hSw); go_simp <;> (first | with_reducible rfl | exact IntWalk.i64_in _ (by omega))
            try simp only [Act.put, l9a, l9z, l9s]
            refine tk9 (i := 15) (some 57) (.bool false) rfl rfl (fun W hSw => ?_) S0 ?_
            · (try dsimp only at hSw); go_simp <;> with_reducible rfl
            try simp only [Act.put, l9a, l9z, l9s]
            refine tk9 (i := 16) (some 58) (.bool false) rfl rfl (fun W hSw => ?_) S0 ?_
            · (try dsimp only at hSw); go_simp <;> with_reducible rfl
            try simp only [Act.put, l9a, l9z, l9s]
            refine tk9 (i := 17) (some 59) (.bool false) rfl rfl (fun W hSw => ?_) S0 ?_
            · (try dsimp only at hSw); go_simp <;> with_reducible rfl
            try simp only [Act.put, l9a, l9z, l9s]
            refine tk9 (i := 18) (some 60) (.pointer (some ⟨g, o, none⟩)) rfl rfl (fun W hSw => ?_) S0 ?_
            · (try dsimp only at hSw); go_simp <;> with_reducible rfl
            try simp only [Act.put, l9a, l9z, l9s]
            refine tk9 (i := 19) (some 61) (.int .i64 (k : Int)) rfl rfl (fun W hSw => ?_) S0 ?_
            · (try dsimp only at hSw); go_simp <;> with_reducible rfl
            try simp only [Act.put, l9a, l9z, l9s]
            refine tk9 (i := 20) (some 62) (.int .i64 ((k : Int) + 1)) rfl rfl (fun W hSw => ?_) S0 ?_
            · (try dsimp only at hSw); go_simp <;> (first | with_reducible rfl | exact IntWalk.i64_in _ (by omega))
            try simp only [Act.put, l9a, l9z, l9s]
            refine wpAnyH_ready (rs := [21]) (by kernel_rfl) (by simp) ?_
            refine AllReadyH.cons rfl (fun K hK => ?_) AllReadyH.nil
            go_simp
            go_at_call 86
            refine (HST.out _ S0.2).mono ?_
            rintro e wa ⟨rfl, hb8⟩
            rw [h9]
            have hb9wa : Below w1.heap.size w1 wa := bthen ((Below.refl _ _).drew : Below w1.heap.size w1 w1.drew) hb8
            have Swa : (fun W : World => (W.cell? ⟨wr.heap.size, 2, none⟩ = some (.int .i64 (j : Int)) ∧ W.cell? ⟨wr.heap.size, 3, none⟩ = some (.int .i64 p.stage) ∧ W.cell? ⟨g, o + 11, none⟩ = some (.slice (some ⟨b2, off2, none⟩) n.st.length n.cS) ∧ W.cell? ⟨b2, off2 + j * 11 + 8, none⟩ = some (.int .i64 y.par)) ∧ Below w1.heap.size w1 W) wa := ⟨⟨(bold hb9wa _ _ (by omega)).trans S0.1.1, (bold hb9wa _ _ (by omega)).trans S0.1.2.1, (bold hb9wa _ _ (by omega)).trans S0.1.2.2.1, (bold hb9wa _ _ (by omega)).trans S0.1.2.2.2⟩, hb9wa⟩
            clear hb8
            go_wp2_with fail
            refine hK.out _ _ Swa (fun _ => ?_)
            clear hK K
            try simp only [Act.put, l9a, l9z, l9s]
            refine tk9 (i := 22) (some 64) (.bool false) rfl rfl (fun W hSw => ?_) Swa ?_
            · (try dsimp only at hSw); go_simp <;> with_reducible rfl
            try simp only [Act.put, l9a, l9z, l9s]
            refine tk9 (i := 23) (some 65) (.bool false) rfl rfl (fun W hSw => ?_) Swa ?_
            · (try dsimp only at hSw); go_simp <;> with_reducible rfl
            try simp only [Act.put, l9a, l9z, l9s]
            refine wpAnyH_done (by kernel_rfl) ?_ _
            have hbreg : Below w1.heap.size w1 wa := Swa.2
            clear S0 Swa hb9wa
            have HY9 := Lib.hid (HYE.out (by rw [HPE.out]; simp [h2, h5, h9]))
            go_wp2_with fail
            go_roundw
            case rel => exact ⟨k + 1, by omega, by go_num, HY9.out, bthen BB.out hbreg⟩
            case measure => simp [intOf]; omega
    · have hkl : k = n.pc.length := by omega
      subst hkl
      have hkk : ¬ (n.pc.length : Int) < (n.pc.length : Int) := by omega
      go_wp2_with fail
      go_ret
      exact tells_yes (fun i p hp => HALL.out i p (List.getElem?_eq_some_iff.1 hp).1 hp) BR.out
end Go.Proofs.YtjpkpfmpjgeeiaaGreat
