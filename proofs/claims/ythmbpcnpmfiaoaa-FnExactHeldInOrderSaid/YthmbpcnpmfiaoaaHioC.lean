/- Chapter 2: HeldInOrder of the model. -/
import Derived.Test.YthmbpcnpmfiaoaaHioB
namespace Go.Proofs.Ythmbpcnpmfiaoaa
open Go.RowKit
set_option linter.unusedVariables false

theorem heldV_cont {l l' : List Cl} {S : List Int} (h : l'.map cont = l.map cont) : heldV l' S = heldV l S := by unfold heldV; rw [bgO_cont h]

set_option maxRecDepth 100000 in
set_option maxHeartbeats 4000000 in
theorem heldS_any (w : World) (B : Nat) (A AS : Option Addr) (c cS : Nat) (l : List Cl) (S : List Int) (hl : l.length ≤ maxLen) (hSl : S.length ≤ maxLen) (hB : B ≤ w.heap.size) (hS : KL w B A l) (hV : ∀ x ∈ l, CV w B x) (hI : IL w B AS S) :
    Calls Try.prog 18 #[.slice A l.length c, .slice AS S.length cS] w fun e w' => e = .returned (.int .i64 (heldV l S)) ∧ Below w.heap.size w w' := by
  have hSl' := hSl
  unfold maxLen at hSl'
  have HS := Lib.hid hS; have HV := Lib.hid hV; have HI := Lib.hid hI; clear hS hV hI
  go_enter Try.func18, Try.ntmps18
  go_wp2_with fail
  refine (bankS_any w B A l.length c l rfl hl hB HS.out HV.out).mono ?_
  rintro e w0 ⟨q0, rfl, hq0, hb0⟩
  have hz0 := hb0.size
  cases q0
  · have hne : ¬ BankP l := fun g => by have := hq0.2 g; simp at this
    have hzz : heldV l S = 0 := by unfold heldV; rw [bgO_no hne, heldR_nil]; split <;> rfl
    have HZ := Lib.hid hzz; clear hzz hne hq0
    go_wp2_with fail
    go_ret
    exact ⟨ret_int HZ.out.symm, hb0⟩
  clear hq0
  have HB0 := Lib.hid hb0; clear hb0
  go_wp2_with fail
  refine (sizesS_any w0 B AS cS S hSl (by omega) (HI.out.later hB HB0.out)).mono ?_
  rintro e w1 ⟨rfl, hb1⟩
  have hz1 := hb1.size
  cases hq : szB S
  · have HZ := Lib.hid (heldV_no (l := l) hq); clear hq
    go_wp2_with fail
    go_ret
    exact ⟨ret_int HZ.out.symm, bthen HB0.out hb1⟩
  · have HZ := Lib.hid (heldV_yes (l := l) hq); have HQ := Lib.hid (szB_iff.1 hq).2; clear hq
    have HB1 := Lib.hid (bthen HB0.out hb1); clear hb1
    go_wp2_with fail
    refine (bgS_any w1 B A l.length c l rfl hl (by omega) (HS.out.later hB HB1.out) (fun x hx => (HV.out x hx).later hB HB1.out)).mono ?_
    rintro e w2 ⟨A', c', rfl, hor, hb2⟩
    have hgl := bgO_len l
    have hz2 := hb2.size
    have HOR := Lib.hid (hor.more (show w.heap.size ≤ w1.heap.size by omega)); have HB2 := Lib.hid (bthen HB1.out hb2); clear hor hb2
    obtain ⟨n, hn⟩ : ∃ n, (bgO l).length = n := ⟨_, rfl⟩
    rw [hn] at hgl ⊢
    have HN := Lib.hid hn; clear hn
    go_wp2_with fail
    go_loopw [6] (fun i wr => ∃ (k : Nat) (G : List Gp), k ≤ S.length ∧ i = .int .i64 k ∧ G.length = n ∧ heldR S (bgO l) 0 = heldR (S.drop k) G k ∧ OR wr w.heap.size 46 A' (gpV G) ∧ Below w.heap.size w wr) (fun i _ => S.length - (intOf i).toNat)
    case atStart => exact ⟨0, bgO l, Nat.zero_le _, rfl, HN.out, rfl, HOR.out, HB2.out⟩
    case round =>
      obtain ⟨k, G, hk, rfl, hG, hR, hor, hb⟩ := hrel
      have hsz := hb.size
      have HR := Lib.hid hR; have HO := Lib.hid hor; have HB := Lib.hid hb; clear hR hor
      by_cases hlt : k < S.length
      · obtain ⟨b, off, s, rfl, hbB, hx, hc0⟩ := (HI.out.later hB hb).at_ hlt
        have h1 := HR.out.trans (heldR_one hx)
        have hlp : leastP s G = leastI s G := if_pos (HQ.out s (List.mem_of_getElem? hx))
        rw [hlp] at h1
        have HLP := Lib.hid hlp
        have H1 := Lib.hid h1; clear h1 hx hlp
        have hbw : b < wr.heap.size := by omega
        go_wp2_with fail
        refine (leastS_any _ A' n c' _ G s hG.symm (by unfold maxLen; omega) (Nat.le_refl _) HO.out.gp).mono ?_
        rintro e w3 ⟨rfl, hb3⟩
        by_cases hneg : leastI s G < 0
        · have hd : decide (leastI s G < 0) = true := by simpa using hneg
          have H2 := Lib.hid (H1.out.trans (if_pos hneg)); clear hneg
          go_wp2_with fail
          go_ret
          refine ⟨ret_int ?_, ?_⟩
          · rw [HZ.out, H2.out]
          · exact bthen HB.out hb3
        · obtain ⟨m, x, hm, hxm, _⟩ := fitV_yes (l := G) (size := s) (by rw [HLP.out]; exact hneg)
          rw [HLP.out] at hm
          have h2 := H1.out.trans (if_neg hneg)
          rw [hm, Int.toNat_natCast, takeG_at hxm] at h2
          have hml : m < G.length := (List.getElem?_eq_some_iff.1 hxm).1
          obtain ⟨g, cur, rfl, hgb, hh, hcur, hor2⟩ := ((HO.out.below hb3).below (Below.refl _ _).drew).putG hxm (wrap64 (x.size - s))
          have H2 := Lib.hid h2; clear h2 hneg hxm
          rw [hm]; clear hm
          have hd : decide ((m : Int) < 0) = false := by simp
          have hb4 := ((bthen HB.out hb3).drew).setCell (p := ⟨g, m * 3 + 2, none⟩) hgb (.int .i64 (wrap64 (x.size - s)))
          have HO2 := Lib.hid hor2; have HB4 := Lib.hid hb4; clear hor2 hb4
          have hm1 : (m : Int) < (n : Int) := by omega
          have hm0 : (0 : Int) ≤ (m : Int) := by omega
          have hk0 : (0 : Int) ≤ (k : Int) := by omega
          have hk1 : (k : Int) < (S.length : Int) := by omega
          have HC := Lib.hid hcur; have HH := Lib.hid hh; clear hcur hh
          have hcs : w3.cell? ⟨b, off + k, none⟩ = some (.int .i64 s) := (bold hb3 _ _ hbw).trans hc0
          clear hc0
          go_upto_region 10 with (fail)
          have S0 : (fun W : World => W.cell? ⟨b, off + k, none⟩ = some (.int .i64 s)) w3.drew := hcs
          refine wp_region_held_drew (S := fun W : World => W.cell? ⟨b, off + k, none⟩ = some (.int .i64 s)) (by kernel_rfl) S0 (fun _ => ?_)
          refine any_take (i := 0) (some 33) (.slice (some ⟨g, 0, none⟩) n c') rfl rfl (by kernel_rfl) (by kernel_rfl) (by kernel_rfl) (fun _ _ _ h => h) rfl (fun W hSw => ?_) S0 ?_
          · (try dsimp only at hSw); go_simp <;> with_reducible rfl
          try simp only [Act.put, List.setIfInBounds_toArray, List.set_cons_zero, List.set_cons_succ]
          refine any_take (i := 1) (some 34) (.int .i64 (m : Int)) rfl rfl (by kernel_rfl) (by kernel_rfl) (by kernel_rfl) (fun _ _ _ h => h) rfl (fun W hSw => ?_) S0 ?_
          · (try dsimp only at hSw); go_simp <;> with_reducible rfl
          try simp only [Act.put, List.setIfInBounds_toArray, List.set_cons_zero, List.set_cons_succ]
          refine any_take (i := 2) (some 35) (.slice (some ⟨g, 0, none⟩) n c') rfl rfl (by kernel_rfl) (by kernel_rfl) (by kernel_rfl) (fun _ _ _ h => h) rfl (fun W hSw => ?_) S0 ?_
          · (try dsimp only at hSw); go_simp <;> with_reducible rfl
          try simp only [Act.put, List.setIfInBounds_toArray, List.set_cons_zero, List.set_cons_succ]
          refine any_take (i := 3) (some 36) (.int .i64 (m : Int)) rfl rfl (by kernel_rfl) (by kernel_rfl) (by kernel_rfl) (fun _ _ _ h => h) rfl (fun W hSw => ?_) S0 ?_
          · (try dsimp only at hSw); go_simp <;> with_reducible rfl
          try simp only [Act.put, List.setIfInBounds_toArray, List.set_cons_zero, List.set_cons_succ]
          refine any_take (i := 4) (some 37) (.pointer (some ⟨g, m * 3, none⟩)) rfl rfl (by kernel_rfl) (by kernel_rfl) (by kernel_rfl) (fun _ _ _ h => h) rfl (fun W hSw => ?_) S0 ?_
          · (try dsimp only at hSw); go_simp <;> with_reducible rfl
          try simp only [Act.put, List.setIfInBounds_toArray, List.set_cons_zero, List.set_cons_succ]
          refine any_take (i := 5) (some 38) (.pointer (some ⟨g, m * 3 + 2, none⟩)) rfl rfl (by kernel_rfl) (by kernel_rfl) (by kernel_rfl) (fun _ _ _ h => h) rfl (fun W hSw => ?_) S0 ?_
          · (try dsimp only at hSw); go_simp <;> with_reducible rfl
          try simp only [Act.put, List.setIfInBounds_toArray, List.set_cons_zero, List.set_cons_succ]
          refine any_take (i := 7) (some 40) (.slice (some ⟨b, off, none⟩) S.length cS) rfl rfl (by kernel_rfl) (by kernel_rfl) (by kernel_rfl) (fun _ _ _ h => h) rfl (fun W hSw => ?_) S0 ?_
          · (try dsimp only at hSw); go_simp <;> with_reducible rfl
          try simp only [Act.put, List.setIfInBounds_toArray, List.set_cons_zero, List.set_cons_succ]
          refine any_take (i := 8) (some 41) (.int .i64 (k : Int)) rfl rfl (by kernel_rfl) (by kernel_rfl) (by kernel_rfl) (fun _ _ _ h => h) rfl (fun W hSw => ?_) S0 ?_
          · (try dsimp only at hSw); go_simp <;> with_reducible rfl
          try simp only [Act.put, List.setIfInBounds_toArray, List.set_cons_zero, List.set_cons_succ]
          refine any_take (i := 9) (some 42) (.pointer (some ⟨b, off + k, none⟩)) rfl rfl (by kernel_rfl) (by kernel_rfl) (by kernel_rfl) (fun _ _ _ h => h) rfl (fun W hSw => ?_) S0 ?_
          · (try dsimp only at hSw); go_simp <;> with_reducible rfl
          try simp only [Act.put, List.setIfInBounds_toArray, List.set_cons_zero, List.set_cons_succ]
          refine any_take (i := 10) (some 43) (.int .i64 s) rfl rfl (by kernel_rfl) (by kernel_rfl) (by kernel_rfl) (fun _ _ _ h => h) rfl (fun W hSw => ?_) S0 ?_
          · (try dsimp only at hSw); go_simp <;> with_reducible rfl
          try simp only [Act.put, List.setIfInBounds_toArray, List.set_cons_zero, List.set_cons_succ]
          refine wpAnyH_ready (rs := [6]) (by kernel_rfl) (by simp) ?_
          refine AllReadyH.cons rfl (fun K hK => ?_) AllReadyH.nil
          have o2 : w3.cell? ⟨g, m * 3 + 2, none⟩ = some (.int .i64 x.size) := has_cell HH.out (m * 3 + 2) HC.out
          have hlg := has_lt HH.out
          go_simp
          refine hK.out _ _ S0 (fun _ => ?_)
          clear hK K o2
          try simp only [Act.put, List.setIfInBounds_toArray, List.set_cons_zero, List.set_cons_succ]
          refine wpAnyH_ready (rs := [11]) (by kernel_rfl) (by simp) ?_
          refine AllReadyH.cons rfl (fun K hK => ?_) AllReadyH.nil
          go_simp
          refine hK.out _ _ S0 (fun _ => ?_)
          clear hK K
          try simp only [Act.put, List.setIfInBounds_toArray, List.set_cons_zero, List.set_cons_succ]
          refine any_take (i := 12) (some 45) (.pointer (some ⟨g, m * 3, none⟩)) rfl rfl (by kernel_rfl) (by kernel_rfl) (by kernel_rfl) (fun _ _ _ h => h) rfl (fun W hSw => ?_) S0 ?_
          · (try dsimp only at hSw); go_simp <;> with_reducible rfl
          try simp only [Act.put, List.setIfInBounds_toArray, List.set_cons_zero, List.set_cons_succ]
          refine any_take (i := 13) (some 46) (.pointer (some ⟨g, m * 3 + 2, none⟩)) rfl rfl (by kernel_rfl) (by kernel_rfl) (by kernel_rfl) (fun _ _ _ h => h) rfl (fun W hSw => ?_) S0 ?_
          · (try dsimp only at hSw); go_simp <;> with_reducible rfl
          try simp only [Act.put, List.setIfInBounds_toArray, List.set_cons_zero, List.set_cons_succ]
          refine wpAnyH_ready (rs := [14]) (by kernel_rfl) (by simp) ?_
          refine AllReadyH.cons rfl (fun K hK => ?_) AllReadyH.nil
          have o2 : w3.cell? ⟨g, m * 3 + 2, none⟩ = some (.int .i64 x.size) := has_cell HH.out (m * 3 + 2) HC.out
          have f2 := has_free HH.out (m * 3 + 2)
          go_simp
          refine hK.out _ _ ((World.cell?_setCell_other _ _ _ _ (fun e => by injection e; omega)).trans S0) (fun _ => ?_)
          clear hK K o2 f2
          try simp only [Act.put, List.setIfInBounds_toArray, List.set_cons_zero, List.set_cons_succ]
          refine wpAnyH_done (by kernel_rfl) ?_ _
          go_wp2
          go_roundw
          case rel => exact ⟨k + 1, _, by omega, by go_num, by simp [hG], H2.out, HO2.out, HB4.out⟩
          case measure => simp [intOf]; omega
      · have hkl : k = S.length := by omega
        go_wp2
        go_ret
        refine ⟨ret_int ?_, HB.out⟩
        rw [HZ.out, HR.out, hkl, List.drop_length]; rfl
end Go.Proofs.Ythmbpcnpmfiaoaa
