/- Chapter 8: MergeJournals of the model (gen_evj.py). -/
import Derived.Test.YtdcejkompdbliaaDoorEvE
import Derived.Test.YtdcejkompdbliaaDoorEvI
namespace Go.Proofs.YtdcejkompdbliaaDoor
open Go.RowKit
set_option linter.unusedVariables false
theorem ev_ne8 {x0 x1 x2 x3 x4 x5 x6 y0 y1 y2 y3 y4 y5 y6 : Int} (h : (⟨x0, x1, x2, x3, x4, x5, x6⟩ : Ev) ≠ ⟨y0, y1, y2, y3, y4, y5, y6⟩) : x0 = y0 → x1 = y1 → x2 = y2 → x3 = y3 → x4 = y4 → x5 = y5 → ¬ x6 = y6 := by
  rintro rfl rfl rfl rfl rfl rfl rfl; exact h rfl

set_option maxRecDepth 100000 in
set_option maxHeartbeats 2000000 in
theorem befS_any (w : World) (x0 x1 x2 x3 x4 x5 x6 y0 y1 y2 y3 y4 y5 y6 : Int) : Calls Tryd.prog 17 #[.agg #[.int .i64 x0, .int .i64 x1, .int .i64 x2, .int .i64 x3, .int .i64 x4, .int .i64 x5, .int .i64 x6], .agg #[.int .i64 y0, .int .i64 y1, .int .i64 y2, .int .i64 y3, .int .i64 y4, .int .i64 y5, .int .i64 y6]] w fun e w' => e = .returned (.bool (befE ⟨x0, x1, x2, x3, x4, x5, x6⟩ ⟨y0, y1, y2, y3, y4, y5, y6⟩)) ∧ Below w.heap.size w w' := by
  go_enter Tryd.func17, Tryd.ntmps17
  go_wp2
  all_goals (go_ret; exact ⟨rbool (by rw [Bool.eq_iff_iff, befE_iff]; dsimp only; (try simp only [decide_eq_true_eq, Bool.false_eq_true, true_iff, false_iff]); omega), (balloc _ _).alloc (by simp) _⟩)
set_option maxRecDepth 100000 in
set_option maxHeartbeats 2000000 in
theorem mergeS_bad1 (w : World) (B B2 : Nat) (A A2 : Option Addr) (c c2 : Nat) (l m : List Ev) (hl : l.length ≤ 1048576) (hm : m.length ≤ 1048576) (hB : B ≤ w.heap.size) (hB2 : B2 ≤ w.heap.size) (hS : evL w B A l) (hS2 : evL w B2 A2 m) (hq : jrnB l = false) : Calls Tryd.prog 6 #[.slice A l.length c, .slice A2 m.length c2] w (AnsE2 (mergeE l m) w) := by
  have HQ := Lib.hid hq; clear hq
  have hlm : l.length ≤ maxLen := by unfold maxLen; omega
  have hmm : m.length ≤ maxLen := by unfold maxLen; omega
  have HLM := Lib.hid hlm; have HMM := Lib.hid hmm; unfold maxLen at hlm hmm
  have HS := Lib.hid hS; have HS2 := Lib.hid hS2; clear hS hS2
  go_enter Tryd.func6, Tryd.ntmps6
  go_wp2_with (go_at_call 16; (with_reducible refine (jrnS_any w B A c l HLM.out hB HS.out).mono ?_); rintro e w1 ⟨rfl, hb1⟩; rw [HQ.out])
  go_ret2
  rw [mergeE_bad (.inl HQ.out)]
  exact ⟨none, 0, Nat.le_refl _, rfl, .inl rfl, hb1⟩
set_option maxRecDepth 100000 in
set_option maxHeartbeats 2000000 in
theorem mergeS_bad2 (w : World) (B B2 : Nat) (A A2 : Option Addr) (c c2 : Nat) (l m : List Ev) (hl : l.length ≤ 1048576) (hm : m.length ≤ 1048576) (hB : B ≤ w.heap.size) (hB2 : B2 ≤ w.heap.size) (hS : evL w B A l) (hS2 : evL w B2 A2 m) (hq : jrnB l = true) (hq2 : jrnB m = false) : Calls Tryd.prog 6 #[.slice A l.length c, .slice A2 m.length c2] w (AnsE2 (mergeE l m) w) := by
  have HQ := Lib.hid hq; have HQ2 := Lib.hid hq2; clear hq hq2
  have hlm : l.length ≤ maxLen := by unfold maxLen; omega
  have hmm : m.length ≤ maxLen := by unfold maxLen; omega
  have HLM := Lib.hid hlm; have HMM := Lib.hid hmm; unfold maxLen at hlm hmm
  have HS := Lib.hid hS; have HS2 := Lib.hid hS2; clear hS hS2
  go_enter Tryd.func6, Tryd.ntmps6
  go_wp2_with (first | (go_at_call 16; (with_reducible refine (jrnS_any w B A c l HLM.out hB HS.out).mono ?_); rintro e w1 ⟨rfl, hb1⟩; rw [HQ.out]) | (go_at_call 16; (with_reducible refine (jrnS_any w1 B2 A2 c2 m HMM.out (by have := hb1.size; omega) (HS2.out.later hB2 hb1)).mono ?_); rintro e w2 ⟨rfl, hb2⟩; rw [HQ2.out]))
  go_ret2
  rw [mergeE_bad (.inr HQ2.out)]
  exact ⟨none, 0, Nat.le_refl _, rfl, .inl rfl, bthen hb1 hb2⟩
set_option maxRecDepth 100000 in
set_option maxHeartbeats 16000000 in
theorem mergeS_good (w : World) (B B2 : Nat) (A A2 : Option Addr) (c c2 : Nat) (l m : List Ev) (hl : l.length ≤ 1048576) (hm : m.length ≤ 1048576) (hB : B ≤ w.heap.size) (hB2 : B2 ≤ w.heap.size) (hS : evL w B A l) (hS2 : evL w B2 A2 m) (hq : jrnB l = true) (hq2 : jrnB m = true) : Calls Tryd.prog 6 #[.slice A l.length c, .slice A2 m.length c2] w (AnsE2 (mergeE l m) w) := by
  have hl60 := jrn_len hq; have hm60 := jrn_len hq2
  have HQ := Lib.hid hq; have HQ2 := Lib.hid hq2; clear hq hq2
  have hlm : l.length ≤ maxLen := by unfold maxLen; omega
  have hmm : m.length ≤ maxLen := by unfold maxLen; omega
  have HLM := Lib.hid hlm; have HMM := Lib.hid hmm; unfold maxLen at hlm hmm
  have HS := Lib.hid hS; have HS2 := Lib.hid hS2; clear hS hS2
  obtain ⟨i0, hi0, hz0, hz1, hz2⟩ := info_parts evInfo
  have I0 := Lib.hid hi0; have Z0 := Lib.hid hz0; have Z1 := Lib.hid hz1; have Z2 := Lib.hid hz2; clear hi0 hz0 hz1 hz2
  go_enter Tryd.func6, Tryd.ntmps6
  go_wp2_with (first | (go_at_call 16; (with_reducible refine (jrnS_any w B A c l HLM.out hB HS.out).mono ?_); rintro e w1 ⟨rfl, hb1⟩; rw [HQ.out]) | (go_at_call 16; (with_reducible refine (jrnS_any w1 B2 A2 c2 m HMM.out (by have := hb1.size; omega) (HS2.out.later hB2 hb1)).mono ?_); rintro e w2 ⟨rfl, hb2⟩; rw [HQ2.out]))
  have hbb := bthen hb1 hb2; have hss := hbb.size
  have HO0 := Lib.hid (ev_own_new w2 w.heap.size hss); have HB0 := Lib.hid (hbb.alloc hss (.cells #[] 40)); clear hb1 hb2 hbb hss
  go_loopw [6, 7, 8] (fun v i j wr => ∃ (p q : Nat) (pre : List Ev), p ≤ l.length ∧ q ≤ m.length ∧ i = .int .i64 p ∧ j = .int .i64 q ∧ MrgAt l m p q pre ∧ wr.ownsRow w.heap.size 40 7 v pre.length (evV pre) ∧ Below w.heap.size w wr) (fun _ i j _ => l.length + m.length - (intOf i).toNat - (intOf j).toNat)
  case atStart => exact ⟨0, 0, [], Nat.zero_le _, Nat.zero_le _, rfl, rfl, mrgAt_start l m, HO0.out, HB0.out⟩
  case round =>
    clear HO0 HB0
    obtain ⟨p, q, pre, hp, hq, rfl, rfl, hat, hown, hb⟩ := hrel
    have hsz := hb.size; have hpl := hat.2
    have HAT := Lib.hid hat; have HO := Lib.hid hown; have HB := Lib.hid hb; clear hat hown hb
    have p0 : (0 : Int) ≤ p := (by omega); have q0 : (0 : Int) ≤ q := (by omega)
    have hcs : (p = l.length ∧ q = m.length) ∨ (p < l.length ∧ q = m.length) ∨ (p = l.length ∧ q < m.length) ∨ (p < l.length ∧ q < m.length) := by omega
    rcases hcs with ⟨hp9, hq9⟩ | ⟨hp9, hq9⟩ | ⟨hp9, hq9⟩ | ⟨hp9, hq9⟩
    · skip
      have HP9 := Lib.hid hp9; have HQ9 := Lib.hid hq9
      have dd1 : ¬ p < l.length := by omega
      have dd2 : ¬ q < m.length := by omega
      clear hp9 hq9
      obtain ⟨A5, c5, hvv, hor⟩ := or_own HO.out
      subst hvv
      have HOR := Lib.hid hor; have HCP := Lib.hid (own_cap8 HO.out); clear hor HO
      have hme := mrgAt_end HAT.out (by have := HP9.out; omega) (by have := HQ9.out; omega)
      have HME := Lib.hid hme; clear hme
      cases hv : jrnB pre
      · skip
        have HV := Lib.hid hv; clear hv
        have hpm : pre.length ≤ 120 := by omega
        go_wp2_with (go_at_call 16; refine (jrnS_any wr wr.heap.size A5 c5 pre (by unfold maxLen; omega) (Nat.le_refl _) HOR.out.ev).mono ?_; rintro e w9 ⟨rfl, hb9⟩; rw [HV.out]; have HB10 := Lib.hid (HB.out.trans (hb9.mono hsz)); have HO10 := Lib.hid (HOR.out.below hb9); clear hb9)
        go_ret2
        rw [mergeE_no HME.out HV.out]
        exact ⟨none, 0, Nat.le_refl _, rfl, .inl rfl, HB10.out⟩
      · skip
        have HV := Lib.hid hv; clear hv
        have hpm : pre.length ≤ 120 := by omega
        go_wp2_with (go_at_call 16; refine (jrnS_any wr wr.heap.size A5 c5 pre (by unfold maxLen; omega) (Nat.le_refl _) HOR.out.ev).mono ?_; rintro e w9 ⟨rfl, hb9⟩; rw [HV.out]; have HB10 := Lib.hid (HB.out.trans (hb9.mono hsz)); have HO10 := Lib.hid (HOR.out.below hb9); clear hb9)
        go_ret2
        rw [mergeE_yes HQ.out HQ2.out HME.out HV.out]
        exact ⟨A5, c5, HCP.out, rfl, HO10.out, HB10.out⟩
    · skip
      have hqe : ((q : Int) == (m.length : Int)) = true := by simp [hq9]
      have hq120 : q ≤ 60 := by omega
      have HQ9 := Lib.hid hq9; clear hq9 hq
      have hpl2 : (p : Int) < l.length := by omega
      obtain ⟨ba, oa, ⟨x0, x1, x2, x3, x4, x5, x6⟩, rfl, hbA, hx, hc0, hc1, hc2, hc3, hc4, hc5, hc6⟩ := (HS.out.below (HB.out.mono hB)).at_ hp9
      dsimp only at hc0 hc1 hc2 hc3 hc4 hc5 hc6
      have HX := Lib.hid hx; clear hx
      have hba : ba < wr.heap.size := by omega
      go_wp2_with fail
      have S0 : (fun W : World => (W.cell? ⟨ba, oa + p * 7, none⟩ = some (.int .i64 x0) ∧ W.cell? ⟨ba, oa + p * 7 + 1, none⟩ = some (.int .i64 x1) ∧ W.cell? ⟨ba, oa + p * 7 + 2, none⟩ = some (.int .i64 x2) ∧ W.cell? ⟨ba, oa + p * 7 + 3, none⟩ = some (.int .i64 x3) ∧ W.cell? ⟨ba, oa + p * 7 + 4, none⟩ = some (.int .i64 x4) ∧ W.cell? ⟨ba, oa + p * 7 + 5, none⟩ = some (.int .i64 x5) ∧ W.cell? ⟨ba, oa + p * 7 + 6, none⟩ = some (.int .i64 x6)) ∧ Below wr.heap.size wr W) wr.drew := ⟨⟨hc0, hc1, hc2, hc3, hc4, hc5, hc6⟩, (Below.refl _ _).drew⟩
      refine wp_region_held_drew (S := (fun W : World => (W.cell? ⟨ba, oa + p * 7, none⟩ = some (.int .i64 x0) ∧ W.cell? ⟨ba, oa + p * 7 + 1, none⟩ = some (.int .i64 x1) ∧ W.cell? ⟨ba, oa + p * 7 + 2, none⟩ = some (.int .i64 x2) ∧ W.cell? ⟨ba, oa + p * 7 + 3, none⟩ = some (.int .i64 x3) ∧ W.cell? ⟨ba, oa + p * 7 + 4, none⟩ = some (.int .i64 x4) ∧ W.cell? ⟨ba, oa + p * 7 + 5, none⟩ = some (.int .i64 x5) ∧ W.cell? ⟨ba, oa + p * 7 + 6, none⟩ = some (.int .i64 x6)) ∧ Below wr.heap.size wr W)) (by kernel_rfl) S0 (fun _ => ?_)
      refine any_take (i := 0) (some 40) (.int .i64 (q : Int)) rfl rfl (by kernel_rfl) (by kernel_rfl) (by kernel_rfl) (fun _ _ _ h => h) rfl (fun W hSw => ?_) (S0) ?_
      · (try dsimp only at hSw); go_simp <;> with_reducible rfl
      try simp only [Act.put, List.setIfInBounds_toArray, List.set_cons_zero, List.set_cons_succ]
      refine any_take (i := 1) (some 41) (.slice A2 m.length c2) rfl rfl (by kernel_rfl) (by kernel_rfl) (by kernel_rfl) (fun _ _ _ h => h) rfl (fun W hSw => ?_) (S0) ?_
      · (try dsimp only at hSw); go_simp <;> with_reducible rfl
      try simp only [Act.put, List.setIfInBounds_toArray, List.set_cons_zero, List.set_cons_succ]
      refine any_take (i := 2) (some 42) (.int .i64 (m.length : Int)) rfl rfl (by kernel_rfl) (by kernel_rfl) (by kernel_rfl) (fun _ _ _ h => h) rfl (fun W hSw => ?_) (S0) ?_
      · (try dsimp only at hSw); go_simp <;> with_reducible rfl
      try simp only [Act.put, List.setIfInBounds_toArray, List.set_cons_zero, List.set_cons_succ]
      refine any_take (i := 3) (some 43) (.bool true) rfl rfl (by kernel_rfl) (by kernel_rfl) (by kernel_rfl) (fun _ _ _ h => h) rfl (fun W hSw => ?_) (S0) ?_
      · (try dsimp only at hSw); go_simp <;> with_reducible rfl
      try simp only [Act.put, List.setIfInBounds_toArray, List.set_cons_zero, List.set_cons_succ]
      refine any_take (i := 4) (some 44) (.bool true) rfl rfl (by kernel_rfl) (by kernel_rfl) (by kernel_rfl) (fun _ _ _ h => h) rfl (fun W hSw => ?_) (S0) ?_
      · (try dsimp only at hSw); go_simp <;> with_reducible rfl
      try simp only [Act.put, List.setIfInBounds_toArray, List.set_cons_zero, List.set_cons_succ]
      refine any_skip (i := 5) (some 45) rfl rfl (by kernel_rfl) (by kernel_rfl) (by kernel_rfl) (fun _ _ _ h => h) rfl (S0) ?_
      try simp only [Act.put, List.setIfInBounds_toArray, List.set_cons_zero, List.set_cons_succ]
      refine any_skip (i := 6) (some 46) rfl rfl (by kernel_rfl) (by kernel_rfl) (by kernel_rfl) (fun _ _ _ h => h) rfl (S0) ?_
      try simp only [Act.put, List.setIfInBounds_toArray, List.set_cons_zero, List.set_cons_succ]
      refine any_skip (i := 7) (some 47) rfl rfl (by kernel_rfl) (by kernel_rfl) (by kernel_rfl) (fun _ _ _ h => h) rfl (S0) ?_
      try simp only [Act.put, List.setIfInBounds_toArray, List.set_cons_zero, List.set_cons_succ]
      refine any_skip (i := 8) (some 48) rfl rfl (by kernel_rfl) (by kernel_rfl) (by kernel_rfl) (fun _ _ _ h => h) rfl (S0) ?_
      try simp only [Act.put, List.setIfInBounds_toArray, List.set_cons_zero, List.set_cons_succ]
      refine any_skip (i := 9) (some 49) rfl rfl (by kernel_rfl) (by kernel_rfl) (by kernel_rfl) (fun _ _ _ h => h) rfl (S0) ?_
      try simp only [Act.put, List.setIfInBounds_toArray, List.set_cons_zero, List.set_cons_succ]
      refine any_skip (i := 10) (some 50) rfl rfl (by kernel_rfl) (by kernel_rfl) (by kernel_rfl) (fun _ _ _ h => h) rfl (S0) ?_
      try simp only [Act.put, List.setIfInBounds_toArray, List.set_cons_zero, List.set_cons_succ]
      refine any_skip (i := 11) (some 51) rfl rfl (by kernel_rfl) (by kernel_rfl) (by kernel_rfl) (fun _ _ _ h => h) rfl (S0) ?_
      try simp only [Act.put, List.setIfInBounds_toArray, List.set_cons_zero, List.set_cons_succ]
      refine any_skip (i := 12) (some 52) rfl rfl (by kernel_rfl) (by kernel_rfl) (by kernel_rfl) (fun _ _ _ h => h) rfl (S0) ?_
      try simp only [Act.put, List.setIfInBounds_toArray, List.set_cons_zero, List.set_cons_succ]
      refine any_skip (i := 13) (some 53) rfl rfl (by kernel_rfl) (by kernel_rfl) (by kernel_rfl) (fun _ _ _ h => h) rfl (S0) ?_
      try simp only [Act.put, List.setIfInBounds_toArray, List.set_cons_zero, List.set_cons_succ]
      refine any_skip (i := 14) (some 54) rfl rfl (by kernel_rfl) (by kernel_rfl) (by kernel_rfl) (fun _ _ _ h => h) rfl (S0) ?_
      try simp only [Act.put, List.setIfInBounds_toArray, List.set_cons_zero, List.set_cons_succ]
      refine any_skip (i := 15) (some 55) rfl rfl (by kernel_rfl) (by kernel_rfl) (by kernel_rfl) (fun _ _ _ h => h) rfl (S0) ?_
      try simp only [Act.put, List.setIfInBounds_toArray, List.set_cons_zero, List.set_cons_succ]
      refine any_skip (i := 16) (some 56) rfl rfl (by kernel_rfl) (by kernel_rfl) (by kernel_rfl) (fun _ _ _ h => h) rfl (S0) ?_
      try simp only [Act.put, List.setIfInBounds_toArray, List.set_cons_zero, List.set_cons_succ]
      refine any_skip (i := 17) (some 57) rfl rfl (by kernel_rfl) (by kernel_rfl) (by kernel_rfl) (fun _ _ _ h => h) rfl (S0) ?_
      try simp only [Act.put, List.setIfInBounds_toArray, List.set_cons_zero, List.set_cons_succ]
      refine any_skip (i := 18) (some 58) rfl rfl (by kernel_rfl) (by kernel_rfl) (by kernel_rfl) (fun _ _ _ h => h) rfl (S0) ?_
      try simp only [Act.put, List.setIfInBounds_toArray, List.set_cons_zero, List.set_cons_succ]
      refine any_skip (i := 19) (some 59) rfl rfl (by kernel_rfl) (by kernel_rfl) (by kernel_rfl) (fun _ _ _ h => h) rfl (S0) ?_
      try simp only [Act.put, List.setIfInBounds_toArray, List.set_cons_zero, List.set_cons_succ]
      refine any_take (i := 20) (some 60) (.bool true) rfl rfl (by kernel_rfl) (by kernel_rfl) (by kernel_rfl) (fun _ _ _ h => h) rfl (fun W hSw => ?_) (S0) ?_
      · (try dsimp only at hSw); go_simp <;> with_reducible rfl
      try simp only [Act.put, List.setIfInBounds_toArray, List.set_cons_zero, List.set_cons_succ]
      refine any_take (i := 21) (some 39) (.bool true) rfl rfl (by kernel_rfl) (by kernel_rfl) (by kernel_rfl) (fun _ _ _ h => h) rfl (fun W hSw => ?_) (S0) ?_
      · (try dsimp only at hSw); go_simp <;> with_reducible rfl
      try simp only [Act.put, List.setIfInBounds_toArray, List.set_cons_zero, List.set_cons_succ]
      refine wpAnyH_done (by kernel_rfl) ?_ _
      have hbreg : Below wr.heap.size wr wr.drew := S0.2
      clear S0
      generalize wr.drew = wz at hbreg ⊢
      replace hc0 := (bold hbreg _ _ hba).trans hc0; replace hc1 := (bold hbreg _ _ hba).trans hc1; replace hc2 := (bold hbreg _ _ hba).trans hc2; replace hc3 := (bold hbreg _ _ hba).trans hc3; replace hc4 := (bold hbreg _ _ hba).trans hc4; replace hc5 := (bold hbreg _ _ hba).trans hc5; replace hc6 := (bold hbreg _ _ hba).trans hc6
      have HO2 := Lib.hid (own_kept HO.out hbreg); have HB2 := Lib.hid (HB.out.trans (hbreg.mono hsz)); have hsn := HB2.out.size
      clear hqe
      go_wp2_with (at_builtin; go_must (refine list_app rfl _ _ 24 rfl w.heap.size 40 i0 (.agg #[.int .i64 0, .int .i64 0, .int .i64 0, .int .i64 0, .int .i64 0, .int .i64 0, .int .i64 0]) 7 56 Tryd.underlying24 I0.out Z0.out Z1.out Z2.out rfl (by decide) _ pre.length (evV pre) rfl (HO2.out.alloc _) _ 1 1 #[.int .i64 x0, .int .i64 x1, .int .i64 x2, .int .i64 x3, .int .i64 x4, .int .i64 x5, .int .i64 x6].toList rfl (src_box _ _ #[.int .i64 x0, .int .i64 x1, .int .i64 x2, .int .i64 x3, .int .i64 x4, .int .i64 x5, .int .i64 x6] 7 rfl (by simp [Value.oneCell'])) (by unfold maxLen; omega) (by omega) (by simp; omega) ?_))
      intro A3 c3 w8 hown8 hgrow8 _
      have hb8 : Below w.heap.size w w8 := (HB2.out.alloc hsn _).grown hgrow8 (by simp; omega) (fun k hk => (HO2.out.lt k hk).1)
      have HO8 := Lib.hid hown8; have HB8 := Lib.hid hb8; clear hown8 hgrow8 hb8
      go_wp2_with fail
      go_roundw
      case rel => exact ⟨p + 1, q, pre ++ [⟨x0, x1, x2, x3, x4, x5, x6⟩], by omega, by have := HQ9.out; omega, by go_num, by go_num, mrgAt_a HAT.out HX.out (by have := HQ9.out; omega), by rw [List.length_append, evV_app, evV_one]; exact HO8.out, HB8.out⟩
      case measure => simp [intOf]; have := HQ9.out; omega
    · skip
      have hpe : ((p : Int) == (l.length : Int)) = true := by simp [hp9]
      have hpd : decide (p < l.length) = false := decide_eq_false (by omega)
      have hqe : ((q : Int) == (m.length : Int)) = false := by simp; omega
      have HP9 := Lib.hid hp9; have dp : ¬ p < l.length := by omega
      have hp120 : p ≤ 60 := by omega
      clear hp9 hp
      have hql2 : (q : Int) < m.length := by omega
      obtain ⟨bb, ob, ⟨y0, y1, y2, y3, y4, y5, y6⟩, rfl, hbB, hy, hd0, hd1, hd2, hd3, hd4, hd5, hd6⟩ := (HS2.out.below (HB.out.mono hB2)).at_ hq9
      dsimp only at hd0 hd1 hd2 hd3 hd4 hd5 hd6
      have HY := Lib.hid hy; clear hy
      have hbb : bb < wr.heap.size := by omega
      go_wp2_with fail
      have S0 : (fun W : World => (W.cell? ⟨bb, ob + q * 7, none⟩ = some (.int .i64 y0) ∧ W.cell? ⟨bb, ob + q * 7 + 1, none⟩ = some (.int .i64 y1) ∧ W.cell? ⟨bb, ob + q * 7 + 2, none⟩ = some (.int .i64 y2) ∧ W.cell? ⟨bb, ob + q * 7 + 3, none⟩ = some (.int .i64 y3) ∧ W.cell? ⟨bb, ob + q * 7 + 4, none⟩ = some (.int .i64 y4) ∧ W.cell? ⟨bb, ob + q * 7 + 5, none⟩ = some (.int .i64 y5) ∧ W.cell? ⟨bb, ob + q * 7 + 6, none⟩ = some (.int .i64 y6)) ∧ Below wr.heap.size wr W) wr.drew := ⟨⟨hd0, hd1, hd2, hd3, hd4, hd5, hd6⟩, (Below.refl _ _).drew⟩
      refine wp_region_held_drew (S := (fun W : World => (W.cell? ⟨bb, ob + q * 7, none⟩ = some (.int .i64 y0) ∧ W.cell? ⟨bb, ob + q * 7 + 1, none⟩ = some (.int .i64 y1) ∧ W.cell? ⟨bb, ob + q * 7 + 2, none⟩ = some (.int .i64 y2) ∧ W.cell? ⟨bb, ob + q * 7 + 3, none⟩ = some (.int .i64 y3) ∧ W.cell? ⟨bb, ob + q * 7 + 4, none⟩ = some (.int .i64 y4) ∧ W.cell? ⟨bb, ob + q * 7 + 5, none⟩ = some (.int .i64 y5) ∧ W.cell? ⟨bb, ob + q * 7 + 6, none⟩ = some (.int .i64 y6)) ∧ Below wr.heap.size wr W)) (by kernel_rfl) S0 (fun _ => ?_)
      refine any_take (i := 0) (some 40) (.int .i64 (q : Int)) rfl rfl (by kernel_rfl) (by kernel_rfl) (by kernel_rfl) (fun _ _ _ h => h) rfl (fun W hSw => ?_) (S0) ?_
      · (try dsimp only at hSw); go_simp <;> with_reducible rfl
      try simp only [Act.put, List.setIfInBounds_toArray, List.set_cons_zero, List.set_cons_succ]
      refine any_take (i := 1) (some 41) (.slice (some ⟨bb, ob, none⟩) m.length c2) rfl rfl (by kernel_rfl) (by kernel_rfl) (by kernel_rfl) (fun _ _ _ h => h) rfl (fun W hSw => ?_) (S0) ?_
      · (try dsimp only at hSw); go_simp <;> with_reducible rfl
      try simp only [Act.put, List.setIfInBounds_toArray, List.set_cons_zero, List.set_cons_succ]
      refine any_take (i := 2) (some 42) (.int .i64 (m.length : Int)) rfl rfl (by kernel_rfl) (by kernel_rfl) (by kernel_rfl) (fun _ _ _ h => h) rfl (fun W hSw => ?_) (S0) ?_
      · (try dsimp only at hSw); go_simp <;> with_reducible rfl
      try simp only [Act.put, List.setIfInBounds_toArray, List.set_cons_zero, List.set_cons_succ]
      refine any_take (i := 3) (some 43) (.bool false) rfl rfl (by kernel_rfl) (by kernel_rfl) (by kernel_rfl) (fun _ _ _ h => h) rfl (fun W hSw => ?_) (S0) ?_
      · (try dsimp only at hSw); go_simp <;> with_reducible rfl
      try simp only [Act.put, List.setIfInBounds_toArray, List.set_cons_zero, List.set_cons_succ]
      refine any_take (i := 4) (some 44) (.bool false) rfl rfl (by kernel_rfl) (by kernel_rfl) (by kernel_rfl) (fun _ _ _ h => h) rfl (fun W hSw => ?_) (S0) ?_
      · (try dsimp only at hSw); go_simp <;> with_reducible rfl
      try simp only [Act.put, List.setIfInBounds_toArray, List.set_cons_zero, List.set_cons_succ]
      refine any_take (i := 5) (some 45) (.int .i64 (p : Int)) rfl rfl (by kernel_rfl) (by kernel_rfl) (by kernel_rfl) (fun _ _ _ h => h) rfl (fun W hSw => ?_) (S0) ?_
      · (try dsimp only at hSw); go_simp <;> with_reducible rfl
      try simp only [Act.put, List.setIfInBounds_toArray, List.set_cons_zero, List.set_cons_succ]
      refine any_take (i := 6) (some 46) (.slice A l.length c) rfl rfl (by kernel_rfl) (by kernel_rfl) (by kernel_rfl) (fun _ _ _ h => h) rfl (fun W hSw => ?_) (S0) ?_
      · (try dsimp only at hSw); go_simp <;> with_reducible rfl
      try simp only [Act.put, List.setIfInBounds_toArray, List.set_cons_zero, List.set_cons_succ]
      refine any_take (i := 7) (some 47) (.int .i64 (l.length : Int)) rfl rfl (by kernel_rfl) (by kernel_rfl) (by kernel_rfl) (fun _ _ _ h => h) rfl (fun W hSw => ?_) (S0) ?_
      · (try dsimp only at hSw); go_simp <;> with_reducible rfl
      try simp only [Act.put, List.setIfInBounds_toArray, List.set_cons_zero, List.set_cons_succ]
      refine any_take (i := 8) (some 48) (.bool false) rfl rfl (by kernel_rfl) (by kernel_rfl) (by kernel_rfl) (fun _ _ _ h => h) rfl (fun W hSw => ?_) (S0) ?_
      · (try dsimp only at hSw); go_simp <;> with_reducible rfl
      try simp only [Act.put, List.setIfInBounds_toArray, List.set_cons_zero, List.set_cons_succ]
      refine any_take (i := 9) (some 49) (.bool false) rfl rfl (by kernel_rfl) (by kernel_rfl) (by kernel_rfl) (fun _ _ _ h => h) rfl (fun W hSw => ?_) (S0) ?_
      · (try dsimp only at hSw); go_simp <;> with_reducible rfl
      try simp only [Act.put, List.setIfInBounds_toArray, List.set_cons_zero, List.set_cons_succ]
      refine any_skip (i := 10) (some 50) rfl rfl (by kernel_rfl) (by kernel_rfl) (by kernel_rfl) (fun _ _ _ h => h) rfl (S0) ?_
      try simp only [Act.put, List.setIfInBounds_toArray, List.set_cons_zero, List.set_cons_succ]
      refine any_skip (i := 11) (some 51) rfl rfl (by kernel_rfl) (by kernel_rfl) (by kernel_rfl) (fun _ _ _ h => h) rfl (S0) ?_
      try simp only [Act.put, List.setIfInBounds_toArray, List.set_cons_zero, List.set_cons_succ]
      refine any_skip (i := 12) (some 52) rfl rfl (by kernel_rfl) (by kernel_rfl) (by kernel_rfl) (fun _ _ _ h => h) rfl (S0) ?_
      try simp only [Act.put, List.setIfInBounds_toArray, List.set_cons_zero, List.set_cons_succ]
      refine any_skip (i := 13) (some 53) rfl rfl (by kernel_rfl) (by kernel_rfl) (by kernel_rfl) (fun _ _ _ h => h) rfl (S0) ?_
      try simp only [Act.put, List.setIfInBounds_toArray, List.set_cons_zero, List.set_cons_succ]
      refine any_skip (i := 14) (some 54) rfl rfl (by kernel_rfl) (by kernel_rfl) (by kernel_rfl) (fun _ _ _ h => h) rfl (S0) ?_
      try simp only [Act.put, List.setIfInBounds_toArray, List.set_cons_zero, List.set_cons_succ]
      refine any_skip (i := 15) (some 55) rfl rfl (by kernel_rfl) (by kernel_rfl) (by kernel_rfl) (fun _ _ _ h => h) rfl (S0) ?_
      try simp only [Act.put, List.setIfInBounds_toArray, List.set_cons_zero, List.set_cons_succ]
      refine any_skip (i := 16) (some 56) rfl rfl (by kernel_rfl) (by kernel_rfl) (by kernel_rfl) (fun _ _ _ h => h) rfl (S0) ?_
      try simp only [Act.put, List.setIfInBounds_toArray, List.set_cons_zero, List.set_cons_succ]
      refine any_skip (i := 17) (some 57) rfl rfl (by kernel_rfl) (by kernel_rfl) (by kernel_rfl) (fun _ _ _ h => h) rfl (S0) ?_
      try simp only [Act.put, List.setIfInBounds_toArray, List.set_cons_zero, List.set_cons_succ]
      refine any_skip (i := 18) (some 58) rfl rfl (by kernel_rfl) (by kernel_rfl) (by kernel_rfl) (fun _ _ _ h => h) rfl (S0) ?_
      try simp only [Act.put, List.setIfInBounds_toArray, List.set_cons_zero, List.set_cons_succ]
      refine any_take (i := 19) (some 59) (.bool false) rfl rfl (by kernel_rfl) (by kernel_rfl) (by kernel_rfl) (fun _ _ _ h => h) rfl (fun W hSw => ?_) (S0) ?_
      · (try dsimp only at hSw); go_simp <;> with_reducible rfl
      try simp only [Act.put, List.setIfInBounds_toArray, List.set_cons_zero, List.set_cons_succ]
      refine any_take (i := 20) (some 60) (.bool false) rfl rfl (by kernel_rfl) (by kernel_rfl) (by kernel_rfl) (fun _ _ _ h => h) rfl (fun W hSw => ?_) (S0) ?_
      · (try dsimp only at hSw); go_simp <;> with_reducible rfl
      try simp only [Act.put, List.setIfInBounds_toArray, List.set_cons_zero, List.set_cons_succ]
      refine any_take (i := 21) (some 39) (.bool false) rfl rfl (by kernel_rfl) (by kernel_rfl) (by kernel_rfl) (fun _ _ _ h => h) rfl (fun W hSw => ?_) (S0) ?_
      · (try dsimp only at hSw); go_simp <;> with_reducible rfl
      try simp only [Act.put, List.setIfInBounds_toArray, List.set_cons_zero, List.set_cons_succ]
      refine wpAnyH_done (by kernel_rfl) ?_ _
      have hbreg : Below wr.heap.size wr wr.drew := S0.2
      clear S0
      generalize wr.drew = wz at hbreg ⊢
      replace hd0 := (bold hbreg _ _ hbb).trans hd0; replace hd1 := (bold hbreg _ _ hbb).trans hd1; replace hd2 := (bold hbreg _ _ hbb).trans hd2; replace hd3 := (bold hbreg _ _ hbb).trans hd3; replace hd4 := (bold hbreg _ _ hbb).trans hd4; replace hd5 := (bold hbreg _ _ hbb).trans hd5; replace hd6 := (bold hbreg _ _ hbb).trans hd6
      have HO2 := Lib.hid (own_kept HO.out hbreg); have HB2 := Lib.hid (HB.out.trans (hbreg.mono hsz)); have hsn := HB2.out.size
      clear dp
      go_wp2_with fail
      have hbb2 : bb < wz.heap.size := by have := hbreg.size; omega
      clear hbreg
      have S0 : (fun W : World => (W.cell? ⟨bb, ob + q * 7, none⟩ = some (.int .i64 y0) ∧ W.cell? ⟨bb, ob + q * 7 + 1, none⟩ = some (.int .i64 y1) ∧ W.cell? ⟨bb, ob + q * 7 + 2, none⟩ = some (.int .i64 y2) ∧ W.cell? ⟨bb, ob + q * 7 + 3, none⟩ = some (.int .i64 y3) ∧ W.cell? ⟨bb, ob + q * 7 + 4, none⟩ = some (.int .i64 y4) ∧ W.cell? ⟨bb, ob + q * 7 + 5, none⟩ = some (.int .i64 y5) ∧ W.cell? ⟨bb, ob + q * 7 + 6, none⟩ = some (.int .i64 y6)) ∧ Below wz.heap.size wz W) wz.drew := ⟨⟨hd0, hd1, hd2, hd3, hd4, hd5, hd6⟩, (Below.refl _ _).drew⟩
      refine wp_region_held_drew (S := (fun W : World => (W.cell? ⟨bb, ob + q * 7, none⟩ = some (.int .i64 y0) ∧ W.cell? ⟨bb, ob + q * 7 + 1, none⟩ = some (.int .i64 y1) ∧ W.cell? ⟨bb, ob + q * 7 + 2, none⟩ = some (.int .i64 y2) ∧ W.cell? ⟨bb, ob + q * 7 + 3, none⟩ = some (.int .i64 y3) ∧ W.cell? ⟨bb, ob + q * 7 + 4, none⟩ = some (.int .i64 y4) ∧ W.cell? ⟨bb, ob + q * 7 + 5, none⟩ = some (.int .i64 y5) ∧ W.cell? ⟨bb, ob + q * 7 + 6, none⟩ = some (.int .i64 y6)) ∧ Below wz.heap.size wz W)) (by kernel_rfl) S0 (fun _ => ?_)
      refine any_take (i := 0) (some 71) (.int .i64 (p : Int)) rfl rfl (by kernel_rfl) (by kernel_rfl) (by kernel_rfl) (fun _ _ _ h => h) rfl (fun W hSw => ?_) (S0) ?_
      · (try dsimp only at hSw); go_simp <;> with_reducible rfl
      try simp only [Act.put, List.setIfInBounds_toArray, List.set_cons_zero, List.set_cons_succ]
      refine any_take (i := 1) (some 72) (.slice A l.length c) rfl rfl (by kernel_rfl) (by kernel_rfl) (by kernel_rfl) (fun _ _ _ h => h) rfl (fun W hSw => ?_) (S0) ?_
      · (try dsimp only at hSw); go_simp <;> with_reducible rfl
      try simp only [Act.put, List.setIfInBounds_toArray, List.set_cons_zero, List.set_cons_succ]
      refine any_take (i := 2) (some 73) (.int .i64 (l.length : Int)) rfl rfl (by kernel_rfl) (by kernel_rfl) (by kernel_rfl) (fun _ _ _ h => h) rfl (fun W hSw => ?_) (S0) ?_
      · (try dsimp only at hSw); go_simp <;> with_reducible rfl
      try simp only [Act.put, List.setIfInBounds_toArray, List.set_cons_zero, List.set_cons_succ]
      refine any_take (i := 3) (some 74) (.bool true) rfl rfl (by kernel_rfl) (by kernel_rfl) (by kernel_rfl) (fun _ _ _ h => h) rfl (fun W hSw => ?_) (S0) ?_
      · (try dsimp only at hSw); go_simp <;> with_reducible rfl
      try simp only [Act.put, List.setIfInBounds_toArray, List.set_cons_zero, List.set_cons_succ]
      refine any_take (i := 4) (some 75) (.bool true) rfl rfl (by kernel_rfl) (by kernel_rfl) (by kernel_rfl) (fun _ _ _ h => h) rfl (fun W hSw => ?_) (S0) ?_
      · (try dsimp only at hSw); go_simp <;> with_reducible rfl
      try simp only [Act.put, List.setIfInBounds_toArray, List.set_cons_zero, List.set_cons_succ]
      refine any_skip (i := 5) (some 76) rfl rfl (by kernel_rfl) (by kernel_rfl) (by kernel_rfl) (fun _ _ _ h => h) rfl (S0) ?_
      try simp only [Act.put, List.setIfInBounds_toArray, List.set_cons_zero, List.set_cons_succ]
      refine any_skip (i := 6) (some 77) rfl rfl (by kernel_rfl) (by kernel_rfl) (by kernel_rfl) (fun _ _ _ h => h) rfl (S0) ?_
      try simp only [Act.put, List.setIfInBounds_toArray, List.set_cons_zero, List.set_cons_succ]
      refine any_skip (i := 7) (some 78) rfl rfl (by kernel_rfl) (by kernel_rfl) (by kernel_rfl) (fun _ _ _ h => h) rfl (S0) ?_
      try simp only [Act.put, List.setIfInBounds_toArray, List.set_cons_zero, List.set_cons_succ]
      refine any_skip (i := 8) (some 79) rfl rfl (by kernel_rfl) (by kernel_rfl) (by kernel_rfl) (fun _ _ _ h => h) rfl (S0) ?_
      try simp only [Act.put, List.setIfInBounds_toArray, List.set_cons_zero, List.set_cons_succ]
      refine any_skip (i := 9) (some 80) rfl rfl (by kernel_rfl) (by kernel_rfl) (by kernel_rfl) (fun _ _ _ h => h) rfl (S0) ?_
      try simp only [Act.put, List.setIfInBounds_toArray, List.set_cons_zero, List.set_cons_succ]
      refine any_skip (i := 10) (some 81) rfl rfl (by kernel_rfl) (by kernel_rfl) (by kernel_rfl) (fun _ _ _ h => h) rfl (S0) ?_
      try simp only [Act.put, List.setIfInBounds_toArray, List.set_cons_zero, List.set_cons_succ]
      refine any_skip (i := 11) (some 82) rfl rfl (by kernel_rfl) (by kernel_rfl) (by kernel_rfl) (fun _ _ _ h => h) rfl (S0) ?_
      try simp only [Act.put, List.setIfInBounds_toArray, List.set_cons_zero, List.set_cons_succ]
      refine any_skip (i := 12) (some 83) rfl rfl (by kernel_rfl) (by kernel_rfl) (by kernel_rfl) (fun _ _ _ h => h) rfl (S0) ?_
      try simp only [Act.put, List.setIfInBounds_toArray, List.set_cons_zero, List.set_cons_succ]
      refine any_skip (i := 13) (some 84) rfl rfl (by kernel_rfl) (by kernel_rfl) (by kernel_rfl) (fun _ _ _ h => h) rfl (S0) ?_
      try simp only [Act.put, List.setIfInBounds_toArray, List.set_cons_zero, List.set_cons_succ]
      refine any_take (i := 14) (some 85) (.bool true) rfl rfl (by kernel_rfl) (by kernel_rfl) (by kernel_rfl) (fun _ _ _ h => h) rfl (fun W hSw => ?_) (S0) ?_
      · (try dsimp only at hSw); go_simp <;> with_reducible rfl
      try simp only [Act.put, List.setIfInBounds_toArray, List.set_cons_zero, List.set_cons_succ]
      refine any_take (i := 15) (some 70) (.bool true) rfl rfl (by kernel_rfl) (by kernel_rfl) (by kernel_rfl) (fun _ _ _ h => h) rfl (fun W hSw => ?_) (S0) ?_
      · (try dsimp only at hSw); go_simp <;> with_reducible rfl
      try simp only [Act.put, List.setIfInBounds_toArray, List.set_cons_zero, List.set_cons_succ]
      refine wpAnyH_done (by kernel_rfl) ?_ _
      have hbreg : Below wz.heap.size wz wz.drew := S0.2
      clear S0
      generalize wz.drew = wy at hbreg ⊢
      replace hd0 := (bold hbreg _ _ hbb2).trans hd0; replace hd1 := (bold hbreg _ _ hbb2).trans hd1; replace hd2 := (bold hbreg _ _ hbb2).trans hd2; replace hd3 := (bold hbreg _ _ hbb2).trans hd3; replace hd4 := (bold hbreg _ _ hbb2).trans hd4; replace hd5 := (bold hbreg _ _ hbb2).trans hd5; replace hd6 := (bold hbreg _ _ hbb2).trans hd6
      have HO3 := Lib.hid (own_kept HO2.out hbreg); have HB3 := Lib.hid (HB2.out.trans (hbreg.mono hsn)); have hsn3 := HB3.out.size; clear hpe hqe hpd
      go_wp2_with (at_builtin; go_must (refine list_app rfl _ _ 24 rfl w.heap.size 40 i0 (.agg #[.int .i64 0, .int .i64 0, .int .i64 0, .int .i64 0, .int .i64 0, .int .i64 0, .int .i64 0]) 7 56 Tryd.underlying24 I0.out Z0.out Z1.out Z2.out rfl (by decide) _ pre.length (evV pre) rfl (HO3.out.alloc _) _ 1 1 #[.int .i64 y0, .int .i64 y1, .int .i64 y2, .int .i64 y3, .int .i64 y4, .int .i64 y5, .int .i64 y6].toList rfl (src_box _ _ #[.int .i64 y0, .int .i64 y1, .int .i64 y2, .int .i64 y3, .int .i64 y4, .int .i64 y5, .int .i64 y6] 7 rfl (by simp [Value.oneCell'])) (by unfold maxLen; omega) (by omega) (by simp; omega) ?_))
      intro A3 c3 w8 hown8 hgrow8 _
      have hb8 : Below w.heap.size w w8 := (HB3.out.alloc hsn3 _).grown hgrow8 (by simp; omega) (fun k hk => (HO3.out.lt k hk).1)
      have HO8 := Lib.hid hown8; have HB8 := Lib.hid hb8; clear hown8 hgrow8 hb8
      go_wp2_with fail
      go_roundw
      case rel => exact ⟨p, q + 1, pre ++ [⟨y0, y1, y2, y3, y4, y5, y6⟩], by have := HP9.out; omega, by omega, by go_num, by go_num, mrgAt_b HAT.out HY.out (by have := HP9.out; omega), by rw [List.length_append, evV_app, evV_one]; exact HO8.out, HB8.out⟩
      case measure => simp [intOf]; have := HP9.out; omega
    · skip
      have hqe : ((q : Int) == (m.length : Int)) = false := by simp; omega
      have hpe : ((p : Int) == (l.length : Int)) = false := by simp; omega
      have hpd : decide (p < l.length) = true := decide_eq_true hp9
      have hpl2 : (p : Int) < l.length := (by omega); have hql2 : (q : Int) < m.length := (by omega)
      obtain ⟨ba, oa, ⟨x0, x1, x2, x3, x4, x5, x6⟩, rfl, hbA, hx, hc0, hc1, hc2, hc3, hc4, hc5, hc6⟩ := (HS.out.below (HB.out.mono hB)).at_ hp9
      dsimp only at hc0 hc1 hc2 hc3 hc4 hc5 hc6
      have HX := Lib.hid hx; clear hx
      obtain ⟨bb, ob, ⟨y0, y1, y2, y3, y4, y5, y6⟩, rfl, hbB, hy, hd0, hd1, hd2, hd3, hd4, hd5, hd6⟩ := (HS2.out.below (HB.out.mono hB2)).at_ hq9
      dsimp only at hd0 hd1 hd2 hd3 hd4 hd5 hd6
      have HY := Lib.hid hy; clear hy
      have hba : ba < wr.heap.size := by omega
      have hbb : bb < wr.heap.size := by omega
      cases h1 : befE ⟨x0, x1, x2, x3, x4, x5, x6⟩ ⟨y0, y1, y2, y3, y4, y5, y6⟩
      · skip
        have H1 := Lib.hid h1; clear h1
        cases h2 : befE ⟨y0, y1, y2, y3, y4, y5, y6⟩ ⟨x0, x1, x2, x3, x4, x5, x6⟩
        · skip
          have H2 := Lib.hid h2; clear h2
          by_cases he : (⟨x0, x1, x2, x3, x4, x5, x6⟩ : Ev) = ⟨y0, y1, y2, y3, y4, y5, y6⟩
          · skip
            simp only [Ev.mk.injEq] at he; obtain ⟨rfl, rfl, rfl, rfl, rfl, rfl, rfl⟩ := he
            go_wp2_with fail
            have S0 : (fun W : World => (W.cell? ⟨ba, oa + p * 7, none⟩ = some (.int .i64 x0) ∧ W.cell? ⟨ba, oa + p * 7 + 1, none⟩ = some (.int .i64 x1) ∧ W.cell? ⟨ba, oa + p * 7 + 2, none⟩ = some (.int .i64 x2) ∧ W.cell? ⟨ba, oa + p * 7 + 3, none⟩ = some (.int .i64 x3) ∧ W.cell? ⟨ba, oa + p * 7 + 4, none⟩ = some (.int .i64 x4) ∧ W.cell? ⟨ba, oa + p * 7 + 5, none⟩ = some (.int .i64 x5) ∧ W.cell? ⟨ba, oa + p * 7 + 6, none⟩ = some (.int .i64 x6) ∧ W.cell? ⟨bb, ob + q * 7, none⟩ = some (.int .i64 x0) ∧ W.cell? ⟨bb, ob + q * 7 + 1, none⟩ = some (.int .i64 x1) ∧ W.cell? ⟨bb, ob + q * 7 + 2, none⟩ = some (.int .i64 x2) ∧ W.cell? ⟨bb, ob + q * 7 + 3, none⟩ = some (.int .i64 x3) ∧ W.cell? ⟨bb, ob + q * 7 + 4, none⟩ = some (.int .i64 x4) ∧ W.cell? ⟨bb, ob + q * 7 + 5, none⟩ = some (.int .i64 x5) ∧ W.cell? ⟨bb, ob + q * 7 + 6, none⟩ = some (.int .i64 x6)) ∧ Below wr.heap.size wr W) wr.drew := ⟨⟨hc0, hc1, hc2, hc3, hc4, hc5, hc6, hd0, hd1, hd2, hd3, hd4, hd5, hd6⟩, (Below.refl _ _).drew⟩
            refine wp_region_held_drew (S := (fun W : World => (W.cell? ⟨ba, oa + p * 7, none⟩ = some (.int .i64 x0) ∧ W.cell? ⟨ba, oa + p * 7 + 1, none⟩ = some (.int .i64 x1) ∧ W.cell? ⟨ba, oa + p * 7 + 2, none⟩ = some (.int .i64 x2) ∧ W.cell? ⟨ba, oa + p * 7 + 3, none⟩ = some (.int .i64 x3) ∧ W.cell? ⟨ba, oa + p * 7 + 4, none⟩ = some (.int .i64 x4) ∧ W.cell? ⟨ba, oa + p * 7 + 5, none⟩ = some (.int .i64 x5) ∧ W.cell? ⟨ba, oa + p * 7 + 6, none⟩ = some (.int .i64 x6) ∧ W.cell? ⟨bb, ob + q * 7, none⟩ = some (.int .i64 x0) ∧ W.cell? ⟨bb, ob + q * 7 + 1, none⟩ = some (.int .i64 x1) ∧ W.cell? ⟨bb, ob + q * 7 + 2, none⟩ = some (.int .i64 x2) ∧ W.cell? ⟨bb, ob + q * 7 + 3, none⟩ = some (.int .i64 x3) ∧ W.cell? ⟨bb, ob + q * 7 + 4, none⟩ = some (.int .i64 x4) ∧ W.cell? ⟨bb, ob + q * 7 + 5, none⟩ = some (.int .i64 x5) ∧ W.cell? ⟨bb, ob + q * 7 + 6, none⟩ = some (.int .i64 x6)) ∧ Below wr.heap.size wr W)) (by kernel_rfl) S0 (fun _ => ?_)
            refine any_take (i := 0) (some 40) (.int .i64 (q : Int)) rfl rfl (by kernel_rfl) (by kernel_rfl) (by kernel_rfl) (fun _ _ _ h => h) rfl (fun W hSw => ?_) (S0) ?_
            · (try dsimp only at hSw); go_simp <;> with_reducible rfl
            try simp only [Act.put, List.setIfInBounds_toArray, List.set_cons_zero, List.set_cons_succ]
            refine any_take (i := 1) (some 41) (.slice (some ⟨bb, ob, none⟩) m.length c2) rfl rfl (by kernel_rfl) (by kernel_rfl) (by kernel_rfl) (fun _ _ _ h => h) rfl (fun W hSw => ?_) (S0) ?_
            · (try dsimp only at hSw); go_simp <;> with_reducible rfl
            try simp only [Act.put, List.setIfInBounds_toArray, List.set_cons_zero, List.set_cons_succ]
            refine any_take (i := 2) (some 42) (.int .i64 (m.length : Int)) rfl rfl (by kernel_rfl) (by kernel_rfl) (by kernel_rfl) (fun _ _ _ h => h) rfl (fun W hSw => ?_) (S0) ?_
            · (try dsimp only at hSw); go_simp <;> with_reducible rfl
            try simp only [Act.put, List.setIfInBounds_toArray, List.set_cons_zero, List.set_cons_succ]
            refine any_take (i := 3) (some 43) (.bool false) rfl rfl (by kernel_rfl) (by kernel_rfl) (by kernel_rfl) (fun _ _ _ h => h) rfl (fun W hSw => ?_) (S0) ?_
            · (try dsimp only at hSw); go_simp <;> with_reducible rfl
            try simp only [Act.put, List.setIfInBounds_toArray, List.set_cons_zero, List.set_cons_succ]
            refine any_take (i := 4) (some 44) (.bool false) rfl rfl (by kernel_rfl) (by kernel_rfl) (by kernel_rfl) (fun _ _ _ h => h) rfl (fun W hSw => ?_) (S0) ?_
            · (try dsimp only at hSw); go_simp <;> with_reducible rfl
            try simp only [Act.put, List.setIfInBounds_toArray, List.set_cons_zero, List.set_cons_succ]
            refine any_take (i := 5) (some 45) (.int .i64 (p : Int)) rfl rfl (by kernel_rfl) (by kernel_rfl) (by kernel_rfl) (fun _ _ _ h => h) rfl (fun W hSw => ?_) (S0) ?_
            · (try dsimp only at hSw); go_simp <;> with_reducible rfl
            try simp only [Act.put, List.setIfInBounds_toArray, List.set_cons_zero, List.set_cons_succ]
            refine any_take (i := 6) (some 46) (.slice (some ⟨ba, oa, none⟩) l.length c) rfl rfl (by kernel_rfl) (by kernel_rfl) (by kernel_rfl) (fun _ _ _ h => h) rfl (fun W hSw => ?_) (S0) ?_
            · (try dsimp only at hSw); go_simp <;> with_reducible rfl
            try simp only [Act.put, List.setIfInBounds_toArray, List.set_cons_zero, List.set_cons_succ]
            refine any_take (i := 7) (some 47) (.int .i64 (l.length : Int)) rfl rfl (by kernel_rfl) (by kernel_rfl) (by kernel_rfl) (fun _ _ _ h => h) rfl (fun W hSw => ?_) (S0) ?_
            · (try dsimp only at hSw); go_simp <;> with_reducible rfl
            try simp only [Act.put, List.setIfInBounds_toArray, List.set_cons_zero, List.set_cons_succ]
            refine any_take (i := 8) (some 48) (.bool true) rfl rfl (by kernel_rfl) (by kernel_rfl) (by kernel_rfl) (fun _ _ _ h => h) rfl (fun W hSw => ?_) (S0) ?_
            · (try dsimp only at hSw); go_simp <;> with_reducible rfl
            try simp only [Act.put, List.setIfInBounds_toArray, List.set_cons_zero, List.set_cons_succ]
            refine any_take (i := 9) (some 49) (.bool true) rfl rfl (by kernel_rfl) (by kernel_rfl) (by kernel_rfl) (fun _ _ _ h => h) rfl (fun W hSw => ?_) (S0) ?_
            · (try dsimp only at hSw); go_simp <;> with_reducible rfl
            try simp only [Act.put, List.setIfInBounds_toArray, List.set_cons_zero, List.set_cons_succ]
            refine any_take (i := 10) (some 50) (.slice (some ⟨ba, oa, none⟩) l.length c) rfl rfl (by kernel_rfl) (by kernel_rfl) (by kernel_rfl) (fun _ _ _ h => h) rfl (fun W hSw => ?_) (S0) ?_
            · (try dsimp only at hSw); go_simp <;> with_reducible rfl
            try simp only [Act.put, List.setIfInBounds_toArray, List.set_cons_zero, List.set_cons_succ]
            refine any_take (i := 11) (some 51) (.int .i64 (p : Int)) rfl rfl (by kernel_rfl) (by kernel_rfl) (by kernel_rfl) (fun _ _ _ h => h) rfl (fun W hSw => ?_) (S0) ?_
            · (try dsimp only at hSw); go_simp <;> with_reducible rfl
            try simp only [Act.put, List.setIfInBounds_toArray, List.set_cons_zero, List.set_cons_succ]
            refine any_take (i := 12) (some 52) (.pointer (some ⟨ba, oa + p * 7, none⟩)) rfl rfl (by kernel_rfl) (by kernel_rfl) (by kernel_rfl) (fun _ _ _ h => h) rfl (fun W hSw => ?_) (S0) ?_
            · (try dsimp only at hSw); go_simp <;> with_reducible rfl
            try simp only [Act.put, List.setIfInBounds_toArray, List.set_cons_zero, List.set_cons_succ]
            refine any_take (i := 13) (some 53) (.agg #[.int .i64 x0, .int .i64 x1, .int .i64 x2, .int .i64 x3, .int .i64 x4, .int .i64 x5, .int .i64 x6]) rfl rfl (by kernel_rfl) (by kernel_rfl) (by kernel_rfl) (fun _ _ _ h => h) rfl (fun W hSw => ?_) (S0) ?_
            · (try dsimp only at hSw); go_simp <;> with_reducible rfl
            try simp only [Act.put, List.setIfInBounds_toArray, List.set_cons_zero, List.set_cons_succ]
            refine any_take (i := 14) (some 54) (.slice (some ⟨bb, ob, none⟩) m.length c2) rfl rfl (by kernel_rfl) (by kernel_rfl) (by kernel_rfl) (fun _ _ _ h => h) rfl (fun W hSw => ?_) (S0) ?_
            · (try dsimp only at hSw); go_simp <;> with_reducible rfl
            try simp only [Act.put, List.setIfInBounds_toArray, List.set_cons_zero, List.set_cons_succ]
            refine any_take (i := 15) (some 55) (.int .i64 (q : Int)) rfl rfl (by kernel_rfl) (by kernel_rfl) (by kernel_rfl) (fun _ _ _ h => h) rfl (fun W hSw => ?_) (S0) ?_
            · (try dsimp only at hSw); go_simp <;> with_reducible rfl
            try simp only [Act.put, List.setIfInBounds_toArray, List.set_cons_zero, List.set_cons_succ]
            refine any_take (i := 16) (some 56) (.pointer (some ⟨bb, ob + q * 7, none⟩)) rfl rfl (by kernel_rfl) (by kernel_rfl) (by kernel_rfl) (fun _ _ _ h => h) rfl (fun W hSw => ?_) (S0) ?_
            · (try dsimp only at hSw); go_simp <;> with_reducible rfl
            try simp only [Act.put, List.setIfInBounds_toArray, List.set_cons_zero, List.set_cons_succ]
            refine any_take (i := 17) (some 57) (.agg #[.int .i64 x0, .int .i64 x1, .int .i64 x2, .int .i64 x3, .int .i64 x4, .int .i64 x5, .int .i64 x6]) rfl rfl (by kernel_rfl) (by kernel_rfl) (by kernel_rfl) (fun _ _ _ h => h) rfl (fun W hSw => ?_) (S0) ?_
            · (try dsimp only at hSw); go_simp <;> with_reducible rfl
            try simp only [Act.put, List.setIfInBounds_toArray, List.set_cons_zero, List.set_cons_succ]
            refine wpAnyH_ready (rs := [18]) (by kernel_rfl) (by simp) ?_
            refine AllReadyH.cons rfl (fun K hK => ?_) AllReadyH.nil
            go_simp
            go_at_call 17
            refine (befS_any _ x0 x1 x2 x3 x4 x5 x6 x0 x1 x2 x3 x4 x5 x6).mono ?_
            rintro e wa ⟨rfl, hb8⟩
            rw [H1.out]
            have hb9wa : Below wr.heap.size wr wa := bthen ((Below.refl _ _).drew : Below wr.heap.size wr wr.drew) hb8
            have Swa : (fun W : World => (W.cell? ⟨ba, oa + p * 7, none⟩ = some (.int .i64 x0) ∧ W.cell? ⟨ba, oa + p * 7 + 1, none⟩ = some (.int .i64 x1) ∧ W.cell? ⟨ba, oa + p * 7 + 2, none⟩ = some (.int .i64 x2) ∧ W.cell? ⟨ba, oa + p * 7 + 3, none⟩ = some (.int .i64 x3) ∧ W.cell? ⟨ba, oa + p * 7 + 4, none⟩ = some (.int .i64 x4) ∧ W.cell? ⟨ba, oa + p * 7 + 5, none⟩ = some (.int .i64 x5) ∧ W.cell? ⟨ba, oa + p * 7 + 6, none⟩ = some (.int .i64 x6) ∧ W.cell? ⟨bb, ob + q * 7, none⟩ = some (.int .i64 x0) ∧ W.cell? ⟨bb, ob + q * 7 + 1, none⟩ = some (.int .i64 x1) ∧ W.cell? ⟨bb, ob + q * 7 + 2, none⟩ = some (.int .i64 x2) ∧ W.cell? ⟨bb, ob + q * 7 + 3, none⟩ = some (.int .i64 x3) ∧ W.cell? ⟨bb, ob + q * 7 + 4, none⟩ = some (.int .i64 x4) ∧ W.cell? ⟨bb, ob + q * 7 + 5, none⟩ = some (.int .i64 x5) ∧ W.cell? ⟨bb, ob + q * 7 + 6, none⟩ = some (.int .i64 x6)) ∧ Below wr.heap.size wr W) wa := ⟨⟨(bold hb9wa _ _ (hba)).trans S0.1.1, (bold hb9wa _ _ (hba)).trans S0.1.2.1, (bold hb9wa _ _ (hba)).trans S0.1.2.2.1, (bold hb9wa _ _ (hba)).trans S0.1.2.2.2.1, (bold hb9wa _ _ (hba)).trans S0.1.2.2.2.2.1, (bold hb9wa _ _ (hba)).trans S0.1.2.2.2.2.2.1, (bold hb9wa _ _ (hba)).trans S0.1.2.2.2.2.2.2.1, (bold hb9wa _ _ (hbb)).trans S0.1.2.2.2.2.2.2.2.1, (bold hb9wa _ _ (hbb)).trans S0.1.2.2.2.2.2.2.2.2.1, (bold hb9wa _ _ (hbb)).trans S0.1.2.2.2.2.2.2.2.2.2.1, (bold hb9wa _ _ (hbb)).trans S0.1.2.2.2.2.2.2.2.2.2.2.1, (bold hb9wa _ _ (hbb)).trans S0.1.2.2.2.2.2.2.2.2.2.2.2.1, (bold hb9wa _ _ (hbb)).trans S0.1.2.2.2.2.2.2.2.2.2.2.2.2.1, (bold hb9wa _ _ (hbb)).trans S0.1.2.2.2.2.2.2.2.2.2.2.2.2.2⟩, hb9wa⟩
            clear hb8
            go_wp2_with fail
            refine hK.out _ _ Swa (fun _ => ?_)
            clear hK K
            try simp only [Act.put, List.setIfInBounds_toArray, List.set_cons_zero, List.set_cons_succ]
            refine any_take (i := 19) (some 59) (.bool false) rfl rfl (by kernel_rfl) (by kernel_rfl) (by kernel_rfl) (fun _ _ _ h => h) rfl (fun W hSw => ?_) (Swa) ?_
            · (try dsimp only at hSw); go_simp <;> with_reducible rfl
            try simp only [Act.put, List.setIfInBounds_toArray, List.set_cons_zero, List.set_cons_succ]
            refine any_take (i := 20) (some 60) (.bool false) rfl rfl (by kernel_rfl) (by kernel_rfl) (by kernel_rfl) (fun _ _ _ h => h) rfl (fun W hSw => ?_) (Swa) ?_
            · (try dsimp only at hSw); go_simp <;> with_reducible rfl
            try simp only [Act.put, List.setIfInBounds_toArray, List.set_cons_zero, List.set_cons_succ]
            refine any_take (i := 21) (some 39) (.bool false) rfl rfl (by kernel_rfl) (by kernel_rfl) (by kernel_rfl) (fun _ _ _ h => h) rfl (fun W hSw => ?_) (Swa) ?_
            · (try dsimp only at hSw); go_simp <;> with_reducible rfl
            try simp only [Act.put, List.setIfInBounds_toArray, List.set_cons_zero, List.set_cons_succ]
            refine wpAnyH_done (by kernel_rfl) ?_ _
            have hbreg : Below wr.heap.size wr wa := Swa.2
            clear S0 Swa hb9wa
            replace hc0 := (bold hbreg _ _ hba).trans hc0; replace hc1 := (bold hbreg _ _ hba).trans hc1; replace hc2 := (bold hbreg _ _ hba).trans hc2; replace hc3 := (bold hbreg _ _ hba).trans hc3; replace hc4 := (bold hbreg _ _ hba).trans hc4; replace hc5 := (bold hbreg _ _ hba).trans hc5; replace hc6 := (bold hbreg _ _ hba).trans hc6
            replace hd0 := (bold hbreg _ _ hbb).trans hd0; replace hd1 := (bold hbreg _ _ hbb).trans hd1; replace hd2 := (bold hbreg _ _ hbb).trans hd2; replace hd3 := (bold hbreg _ _ hbb).trans hd3; replace hd4 := (bold hbreg _ _ hbb).trans hd4; replace hd5 := (bold hbreg _ _ hbb).trans hd5; replace hd6 := (bold hbreg _ _ hbb).trans hd6
            have HO2 := Lib.hid (own_kept HO.out hbreg); have HB2 := Lib.hid (HB.out.trans (hbreg.mono hsz)); have hsn := HB2.out.size
            have hba2 : ba < wa.heap.size := by have := hbreg.size; omega
            have hbb2 : bb < wa.heap.size := by have := hbreg.size; omega
            clear hbreg
            go_wp2_with fail
            have S0 : (fun W : World => (W.cell? ⟨ba, oa + p * 7, none⟩ = some (.int .i64 x0) ∧ W.cell? ⟨ba, oa + p * 7 + 1, none⟩ = some (.int .i64 x1) ∧ W.cell? ⟨ba, oa + p * 7 + 2, none⟩ = some (.int .i64 x2) ∧ W.cell? ⟨ba, oa + p * 7 + 3, none⟩ = some (.int .i64 x3) ∧ W.cell? ⟨ba, oa + p * 7 + 4, none⟩ = some (.int .i64 x4) ∧ W.cell? ⟨ba, oa + p * 7 + 5, none⟩ = some (.int .i64 x5) ∧ W.cell? ⟨ba, oa + p * 7 + 6, none⟩ = some (.int .i64 x6) ∧ W.cell? ⟨bb, ob + q * 7, none⟩ = some (.int .i64 x0) ∧ W.cell? ⟨bb, ob + q * 7 + 1, none⟩ = some (.int .i64 x1) ∧ W.cell? ⟨bb, ob + q * 7 + 2, none⟩ = some (.int .i64 x2) ∧ W.cell? ⟨bb, ob + q * 7 + 3, none⟩ = some (.int .i64 x3) ∧ W.cell? ⟨bb, ob + q * 7 + 4, none⟩ = some (.int .i64 x4) ∧ W.cell? ⟨bb, ob + q * 7 + 5, none⟩ = some (.int .i64 x5) ∧ W.cell? ⟨bb, ob + q * 7 + 6, none⟩ = some (.int .i64 x6)) ∧ Below wa.heap.size wa W) wa.drew := ⟨⟨hc0, hc1, hc2, hc3, hc4, hc5, hc6, hd0, hd1, hd2, hd3, hd4, hd5, hd6⟩, (Below.refl _ _).drew⟩
            refine wp_region_held_drew (S := (fun W : World => (W.cell? ⟨ba, oa + p * 7, none⟩ = some (.int .i64 x0) ∧ W.cell? ⟨ba, oa + p * 7 + 1, none⟩ = some (.int .i64 x1) ∧ W.cell? ⟨ba, oa + p * 7 + 2, none⟩ = some (.int .i64 x2) ∧ W.cell? ⟨ba, oa + p * 7 + 3, none⟩ = some (.int .i64 x3) ∧ W.cell? ⟨ba, oa + p * 7 + 4, none⟩ = some (.int .i64 x4) ∧ W.cell? ⟨ba, oa + p * 7 + 5, none⟩ = some (.int .i64 x5) ∧ W.cell? ⟨ba, oa + p * 7 + 6, none⟩ = some (.int .i64 x6) ∧ W.cell? ⟨bb, ob + q * 7, none⟩ = some (.int .i64 x0) ∧ W.cell? ⟨bb, ob + q * 7 + 1, none⟩ = some (.int .i64 x1) ∧ W.cell? ⟨bb, ob + q * 7 + 2, none⟩ = some (.int .i64 x2) ∧ W.cell? ⟨bb, ob + q * 7 + 3, none⟩ = some (.int .i64 x3) ∧ W.cell? ⟨bb, ob + q * 7 + 4, none⟩ = some (.int .i64 x4) ∧ W.cell? ⟨bb, ob + q * 7 + 5, none⟩ = some (.int .i64 x5) ∧ W.cell? ⟨bb, ob + q * 7 + 6, none⟩ = some (.int .i64 x6)) ∧ Below wa.heap.size wa W)) (by kernel_rfl) S0 (fun _ => ?_)
            refine any_take (i := 0) (some 71) (.int .i64 (p : Int)) rfl rfl (by kernel_rfl) (by kernel_rfl) (by kernel_rfl) (fun _ _ _ h => h) rfl (fun W hSw => ?_) (S0) ?_
            · (try dsimp only at hSw); go_simp <;> with_reducible rfl
            try simp only [Act.put, List.setIfInBounds_toArray, List.set_cons_zero, List.set_cons_succ]
            refine any_take (i := 1) (some 72) (.slice (some ⟨ba, oa, none⟩) l.length c) rfl rfl (by kernel_rfl) (by kernel_rfl) (by kernel_rfl) (fun _ _ _ h => h) rfl (fun W hSw => ?_) (S0) ?_
            · (try dsimp only at hSw); go_simp <;> with_reducible rfl
            try simp only [Act.put, List.setIfInBounds_toArray, List.set_cons_zero, List.set_cons_succ]
            refine any_take (i := 2) (some 73) (.int .i64 (l.length : Int)) rfl rfl (by kernel_rfl) (by kernel_rfl) (by kernel_rfl) (fun _ _ _ h => h) rfl (fun W hSw => ?_) (S0) ?_
            · (try dsimp only at hSw); go_simp <;> with_reducible rfl
            try simp only [Act.put, List.setIfInBounds_toArray, List.set_cons_zero, List.set_cons_succ]
            refine any_take (i := 3) (some 74) (.bool false) rfl rfl (by kernel_rfl) (by kernel_rfl) (by kernel_rfl) (fun _ _ _ h => h) rfl (fun W hSw => ?_) (S0) ?_
            · (try dsimp only at hSw); go_simp <;> with_reducible rfl
            try simp only [Act.put, List.setIfInBounds_toArray, List.set_cons_zero, List.set_cons_succ]
            refine any_take (i := 4) (some 75) (.bool false) rfl rfl (by kernel_rfl) (by kernel_rfl) (by kernel_rfl) (fun _ _ _ h => h) rfl (fun W hSw => ?_) (S0) ?_
            · (try dsimp only at hSw); go_simp <;> with_reducible rfl
            try simp only [Act.put, List.setIfInBounds_toArray, List.set_cons_zero, List.set_cons_succ]
            refine any_take (i := 5) (some 76) (.slice (some ⟨bb, ob, none⟩) m.length c2) rfl rfl (by kernel_rfl) (by kernel_rfl) (by kernel_rfl) (fun _ _ _ h => h) rfl (fun W hSw => ?_) (S0) ?_
            · (try dsimp only at hSw); go_simp <;> with_reducible rfl
            try simp only [Act.put, List.setIfInBounds_toArray, List.set_cons_zero, List.set_cons_succ]
            refine any_take (i := 6) (some 77) (.int .i64 (q : Int)) rfl rfl (by kernel_rfl) (by kernel_rfl) (by kernel_rfl) (fun _ _ _ h => h) rfl (fun W hSw => ?_) (S0) ?_
            · (try dsimp only at hSw); go_simp <;> with_reducible rfl
            try simp only [Act.put, List.setIfInBounds_toArray, List.set_cons_zero, List.set_cons_succ]
            refine any_take (i := 7) (some 78) (.pointer (some ⟨bb, ob + q * 7, none⟩)) rfl rfl (by kernel_rfl) (by kernel_rfl) (by kernel_rfl) (fun _ _ _ h => h) rfl (fun W hSw => ?_) (S0) ?_
            · (try dsimp only at hSw); go_simp <;> with_reducible rfl
            try simp only [Act.put, List.setIfInBounds_toArray, List.set_cons_zero, List.set_cons_succ]
            refine any_take (i := 8) (some 79) (.agg #[.int .i64 x0, .int .i64 x1, .int .i64 x2, .int .i64 x3, .int .i64 x4, .int .i64 x5, .int .i64 x6]) rfl rfl (by kernel_rfl) (by kernel_rfl) (by kernel_rfl) (fun _ _ _ h => h) rfl (fun W hSw => ?_) (S0) ?_
            · (try dsimp only at hSw); go_simp <;> with_reducible rfl
            try simp only [Act.put, List.setIfInBounds_toArray, List.set_cons_zero, List.set_cons_succ]
            refine any_take (i := 9) (some 80) (.slice (some ⟨ba, oa, none⟩) l.length c) rfl rfl (by kernel_rfl) (by kernel_rfl) (by kernel_rfl) (fun _ _ _ h => h) rfl (fun W hSw => ?_) (S0) ?_
            · (try dsimp only at hSw); go_simp <;> with_reducible rfl
            try simp only [Act.put, List.setIfInBounds_toArray, List.set_cons_zero, List.set_cons_succ]
            refine any_take (i := 10) (some 81) (.int .i64 (p : Int)) rfl rfl (by kernel_rfl) (by kernel_rfl) (by kernel_rfl) (fun _ _ _ h => h) rfl (fun W hSw => ?_) (S0) ?_
            · (try dsimp only at hSw); go_simp <;> with_reducible rfl
            try simp only [Act.put, List.setIfInBounds_toArray, List.set_cons_zero, List.set_cons_succ]
            refine any_take (i := 11) (some 82) (.pointer (some ⟨ba, oa + p * 7, none⟩)) rfl rfl (by kernel_rfl) (by kernel_rfl) (by kernel_rfl) (fun _ _ _ h => h) rfl (fun W hSw => ?_) (S0) ?_
            · (try dsimp only at hSw); go_simp <;> with_reducible rfl
            try simp only [Act.put, List.setIfInBounds_toArray, List.set_cons_zero, List.set_cons_succ]
            refine any_take (i := 12) (some 83) (.agg #[.int .i64 x0, .int .i64 x1, .int .i64 x2, .int .i64 x3, .int .i64 x4, .int .i64 x5, .int .i64 x6]) rfl rfl (by kernel_rfl) (by kernel_rfl) (by kernel_rfl) (fun _ _ _ h => h) rfl (fun W hSw => ?_) (S0) ?_
            · (try dsimp only at hSw); go_simp <;> with_reducible rfl
            try simp only [Act.put, List.setIfInBounds_toArray, List.set_cons_zero, List.set_cons_succ]
            refine wpAnyH_ready (rs := [13]) (by kernel_rfl) (by simp) ?_
            refine AllReadyH.cons rfl (fun K hK => ?_) AllReadyH.nil
            go_simp
            go_at_call 17
            refine (befS_any _ x0 x1 x2 x3 x4 x5 x6 x0 x1 x2 x3 x4 x5 x6).mono ?_
            rintro e wb ⟨rfl, hb8⟩
            rw [H2.out]
            have hb9wb : Below wa.heap.size wa wb := bthen ((Below.refl _ _).drew : Below wa.heap.size wa wa.drew) hb8
            have Swb : (fun W : World => (W.cell? ⟨ba, oa + p * 7, none⟩ = some (.int .i64 x0) ∧ W.cell? ⟨ba, oa + p * 7 + 1, none⟩ = some (.int .i64 x1) ∧ W.cell? ⟨ba, oa + p * 7 + 2, none⟩ = some (.int .i64 x2) ∧ W.cell? ⟨ba, oa + p * 7 + 3, none⟩ = some (.int .i64 x3) ∧ W.cell? ⟨ba, oa + p * 7 + 4, none⟩ = some (.int .i64 x4) ∧ W.cell? ⟨ba, oa + p * 7 + 5, none⟩ = some (.int .i64 x5) ∧ W.cell? ⟨ba, oa + p * 7 + 6, none⟩ = some (.int .i64 x6) ∧ W.cell? ⟨bb, ob + q * 7, none⟩ = some (.int .i64 x0) ∧ W.cell? ⟨bb, ob + q * 7 + 1, none⟩ = some (.int .i64 x1) ∧ W.cell? ⟨bb, ob + q * 7 + 2, none⟩ = some (.int .i64 x2) ∧ W.cell? ⟨bb, ob + q * 7 + 3, none⟩ = some (.int .i64 x3) ∧ W.cell? ⟨bb, ob + q * 7 + 4, none⟩ = some (.int .i64 x4) ∧ W.cell? ⟨bb, ob + q * 7 + 5, none⟩ = some (.int .i64 x5) ∧ W.cell? ⟨bb, ob + q * 7 + 6, none⟩ = some (.int .i64 x6)) ∧ Below wa.heap.size wa W) wb := ⟨⟨(bold hb9wb _ _ (hba2)).trans S0.1.1, (bold hb9wb _ _ (hba2)).trans S0.1.2.1, (bold hb9wb _ _ (hba2)).trans S0.1.2.2.1, (bold hb9wb _ _ (hba2)).trans S0.1.2.2.2.1, (bold hb9wb _ _ (hba2)).trans S0.1.2.2.2.2.1, (bold hb9wb _ _ (hba2)).trans S0.1.2.2.2.2.2.1, (bold hb9wb _ _ (hba2)).trans S0.1.2.2.2.2.2.2.1, (bold hb9wb _ _ (hbb2)).trans S0.1.2.2.2.2.2.2.2.1, (bold hb9wb _ _ (hbb2)).trans S0.1.2.2.2.2.2.2.2.2.1, (bold hb9wb _ _ (hbb2)).trans S0.1.2.2.2.2.2.2.2.2.2.1, (bold hb9wb _ _ (hbb2)).trans S0.1.2.2.2.2.2.2.2.2.2.2.1, (bold hb9wb _ _ (hbb2)).trans S0.1.2.2.2.2.2.2.2.2.2.2.2.1, (bold hb9wb _ _ (hbb2)).trans S0.1.2.2.2.2.2.2.2.2.2.2.2.2.1, (bold hb9wb _ _ (hbb2)).trans S0.1.2.2.2.2.2.2.2.2.2.2.2.2.2⟩, hb9wb⟩
            clear hb8
            go_wp2_with fail
            refine hK.out _ _ Swb (fun _ => ?_)
            clear hK K
            try simp only [Act.put, List.setIfInBounds_toArray, List.set_cons_zero, List.set_cons_succ]
            refine any_take (i := 14) (some 85) (.bool false) rfl rfl (by kernel_rfl) (by kernel_rfl) (by kernel_rfl) (fun _ _ _ h => h) rfl (fun W hSw => ?_) (Swb) ?_
            · (try dsimp only at hSw); go_simp <;> with_reducible rfl
            try simp only [Act.put, List.setIfInBounds_toArray, List.set_cons_zero, List.set_cons_succ]
            refine any_take (i := 15) (some 70) (.bool false) rfl rfl (by kernel_rfl) (by kernel_rfl) (by kernel_rfl) (fun _ _ _ h => h) rfl (fun W hSw => ?_) (Swb) ?_
            · (try dsimp only at hSw); go_simp <;> with_reducible rfl
            try simp only [Act.put, List.setIfInBounds_toArray, List.set_cons_zero, List.set_cons_succ]
            refine wpAnyH_done (by kernel_rfl) ?_ _
            have hbreg : Below wa.heap.size wa wb := Swb.2
            clear S0 Swb hb9wb
            replace hc0 := (bold hbreg _ _ hba2).trans hc0; replace hc1 := (bold hbreg _ _ hba2).trans hc1; replace hc2 := (bold hbreg _ _ hba2).trans hc2; replace hc3 := (bold hbreg _ _ hba2).trans hc3; replace hc4 := (bold hbreg _ _ hba2).trans hc4; replace hc5 := (bold hbreg _ _ hba2).trans hc5; replace hc6 := (bold hbreg _ _ hba2).trans hc6
            replace hd0 := (bold hbreg _ _ hbb2).trans hd0; replace hd1 := (bold hbreg _ _ hbb2).trans hd1; replace hd2 := (bold hbreg _ _ hbb2).trans hd2; replace hd3 := (bold hbreg _ _ hbb2).trans hd3; replace hd4 := (bold hbreg _ _ hbb2).trans hd4; replace hd5 := (bold hbreg _ _ hbb2).trans hd5; replace hd6 := (bold hbreg _ _ hbb2).trans hd6
            have HO3 := Lib.hid (own_kept HO2.out hbreg); have HB3 := Lib.hid (HB2.out.trans (hbreg.mono hsn)); have hsn3 := HB3.out.size
            have hba3 : ba < wb.heap.size := by have := hbreg.size; omega
            have hbb3 : bb < wb.heap.size := by have := hbreg.size; omega
            clear hbreg hqe hpe hpd
            have e0 : (x0 != x0) = false := (by simp); have e1 : (x1 != x1) = false := (by simp); have e2 : (x2 != x2) = false := (by simp); have e3 : (x3 != x3) = false := (by simp); have e4 : (x4 != x4) = false := (by simp); have e5 : (x5 != x5) = false := (by simp); have e6 : (x6 != x6) = false := (by simp)
            go_wp2_with fail
            have S0 : (fun W : World => (W.cell? ⟨ba, oa + p * 7, none⟩ = some (.int .i64 x0) ∧ W.cell? ⟨ba, oa + p * 7 + 1, none⟩ = some (.int .i64 x1) ∧ W.cell? ⟨ba, oa + p * 7 + 2, none⟩ = some (.int .i64 x2) ∧ W.cell? ⟨ba, oa + p * 7 + 3, none⟩ = some (.int .i64 x3) ∧ W.cell? ⟨ba, oa + p * 7 + 4, none⟩ = some (.int .i64 x4) ∧ W.cell? ⟨ba, oa + p * 7 + 5, none⟩ = some (.int .i64 x5) ∧ W.cell? ⟨ba, oa + p * 7 + 6, none⟩ = some (.int .i64 x6) ∧ W.cell? ⟨bb, ob + q * 7, none⟩ = some (.int .i64 x0) ∧ W.cell? ⟨bb, ob + q * 7 + 1, none⟩ = some (.int .i64 x1) ∧ W.cell? ⟨bb, ob + q * 7 + 2, none⟩ = some (.int .i64 x2) ∧ W.cell? ⟨bb, ob + q * 7 + 3, none⟩ = some (.int .i64 x3) ∧ W.cell? ⟨bb, ob + q * 7 + 4, none⟩ = some (.int .i64 x4) ∧ W.cell? ⟨bb, ob + q * 7 + 5, none⟩ = some (.int .i64 x5) ∧ W.cell? ⟨bb, ob + q * 7 + 6, none⟩ = some (.int .i64 x6)) ∧ Below wb.heap.size wb W) wb.drew := ⟨⟨hc0, hc1, hc2, hc3, hc4, hc5, hc6, hd0, hd1, hd2, hd3, hd4, hd5, hd6⟩, (Below.refl _ _).drew⟩
            refine wp_region_held_drew (S := (fun W : World => (W.cell? ⟨ba, oa + p * 7, none⟩ = some (.int .i64 x0) ∧ W.cell? ⟨ba, oa + p * 7 + 1, none⟩ = some (.int .i64 x1) ∧ W.cell? ⟨ba, oa + p * 7 + 2, none⟩ = some (.int .i64 x2) ∧ W.cell? ⟨ba, oa + p * 7 + 3, none⟩ = some (.int .i64 x3) ∧ W.cell? ⟨ba, oa + p * 7 + 4, none⟩ = some (.int .i64 x4) ∧ W.cell? ⟨ba, oa + p * 7 + 5, none⟩ = some (.int .i64 x5) ∧ W.cell? ⟨ba, oa + p * 7 + 6, none⟩ = some (.int .i64 x6) ∧ W.cell? ⟨bb, ob + q * 7, none⟩ = some (.int .i64 x0) ∧ W.cell? ⟨bb, ob + q * 7 + 1, none⟩ = some (.int .i64 x1) ∧ W.cell? ⟨bb, ob + q * 7 + 2, none⟩ = some (.int .i64 x2) ∧ W.cell? ⟨bb, ob + q * 7 + 3, none⟩ = some (.int .i64 x3) ∧ W.cell? ⟨bb, ob + q * 7 + 4, none⟩ = some (.int .i64 x4) ∧ W.cell? ⟨bb, ob + q * 7 + 5, none⟩ = some (.int .i64 x5) ∧ W.cell? ⟨bb, ob + q * 7 + 6, none⟩ = some (.int .i64 x6)) ∧ Below wb.heap.size wb W)) (by kernel_rfl) S0 (fun _ => ?_)
            refine any_take (i := 0) (some 96) (.slice (some ⟨ba, oa, none⟩) l.length c) rfl rfl (by kernel_rfl) (by kernel_rfl) (by kernel_rfl) (fun _ _ _ h => h) rfl (fun W hSw => ?_) (S0) ?_
            · (try dsimp only at hSw); go_simp <;> with_reducible rfl
            try simp only [Act.put, List.setIfInBounds_toArray, List.set_cons_zero, List.set_cons_succ]
            refine any_take (i := 1) (some 97) (.int .i64 (p : Int)) rfl rfl (by kernel_rfl) (by kernel_rfl) (by kernel_rfl) (fun _ _ _ h => h) rfl (fun W hSw => ?_) (S0) ?_
            · (try dsimp only at hSw); go_simp <;> with_reducible rfl
            try simp only [Act.put, List.setIfInBounds_toArray, List.set_cons_zero, List.set_cons_succ]
            refine any_take (i := 2) (some 98) (.pointer (some ⟨ba, oa + p * 7, none⟩)) rfl rfl (by kernel_rfl) (by kernel_rfl) (by kernel_rfl) (fun _ _ _ h => h) rfl (fun W hSw => ?_) (S0) ?_
            · (try dsimp only at hSw); go_simp <;> with_reducible rfl
            try simp only [Act.put, List.setIfInBounds_toArray, List.set_cons_zero, List.set_cons_succ]
            refine any_take (i := 3) (some 99) (.agg #[.int .i64 x0, .int .i64 x1, .int .i64 x2, .int .i64 x3, .int .i64 x4, .int .i64 x5, .int .i64 x6]) rfl rfl (by kernel_rfl) (by kernel_rfl) (by kernel_rfl) (fun _ _ _ h => h) rfl (fun W hSw => ?_) (S0) ?_
            · (try dsimp only at hSw); go_simp <;> with_reducible rfl
            try simp only [Act.put, List.setIfInBounds_toArray, List.set_cons_zero, List.set_cons_succ]
            refine any_take (i := 4) (some 100) (.slice (some ⟨bb, ob, none⟩) m.length c2) rfl rfl (by kernel_rfl) (by kernel_rfl) (by kernel_rfl) (fun _ _ _ h => h) rfl (fun W hSw => ?_) (S0) ?_
            · (try dsimp only at hSw); go_simp <;> with_reducible rfl
            try simp only [Act.put, List.setIfInBounds_toArray, List.set_cons_zero, List.set_cons_succ]
            refine any_take (i := 5) (some 101) (.int .i64 (q : Int)) rfl rfl (by kernel_rfl) (by kernel_rfl) (by kernel_rfl) (fun _ _ _ h => h) rfl (fun W hSw => ?_) (S0) ?_
            · (try dsimp only at hSw); go_simp <;> with_reducible rfl
            try simp only [Act.put, List.setIfInBounds_toArray, List.set_cons_zero, List.set_cons_succ]
            refine any_take (i := 6) (some 102) (.pointer (some ⟨bb, ob + q * 7, none⟩)) rfl rfl (by kernel_rfl) (by kernel_rfl) (by kernel_rfl) (fun _ _ _ h => h) rfl (fun W hSw => ?_) (S0) ?_
            · (try dsimp only at hSw); go_simp <;> with_reducible rfl
            try simp only [Act.put, List.setIfInBounds_toArray, List.set_cons_zero, List.set_cons_succ]
            refine any_take (i := 7) (some 103) (.agg #[.int .i64 x0, .int .i64 x1, .int .i64 x2, .int .i64 x3, .int .i64 x4, .int .i64 x5, .int .i64 x6]) rfl rfl (by kernel_rfl) (by kernel_rfl) (by kernel_rfl) (fun _ _ _ h => h) rfl (fun W hSw => ?_) (S0) ?_
            · (try dsimp only at hSw); go_simp <;> with_reducible rfl
            try simp only [Act.put, List.setIfInBounds_toArray, List.set_cons_zero, List.set_cons_succ]
            refine any_take (i := 8) (some 104) (.bool false) rfl rfl (by kernel_rfl) (by kernel_rfl) (by kernel_rfl) (fun _ _ _ h => h) rfl (fun W hSw => ?_) (S0) ?_
            · (try dsimp only at hSw); go_simp <;> with_reducible rfl
            try simp only [Act.put, List.setIfInBounds_toArray, List.set_cons_zero, List.set_cons_succ]
            refine any_take (i := 9) (some 95) (.bool false) rfl rfl (by kernel_rfl) (by kernel_rfl) (by kernel_rfl) (fun _ _ _ h => h) rfl (fun W hSw => ?_) (S0) ?_
            · (try dsimp only at hSw); go_simp <;> with_reducible rfl
            try simp only [Act.put, List.setIfInBounds_toArray, List.set_cons_zero, List.set_cons_succ]
            refine wpAnyH_done (by kernel_rfl) ?_ _
            have hbreg : Below wb.heap.size wb wb.drew := S0.2
            clear S0
            generalize wb.drew = wc at hbreg ⊢
            replace hc0 := (bold hbreg _ _ hba3).trans hc0; replace hc1 := (bold hbreg _ _ hba3).trans hc1; replace hc2 := (bold hbreg _ _ hba3).trans hc2; replace hc3 := (bold hbreg _ _ hba3).trans hc3; replace hc4 := (bold hbreg _ _ hba3).trans hc4; replace hc5 := (bold hbreg _ _ hba3).trans hc5; replace hc6 := (bold hbreg _ _ hba3).trans hc6
            have HO4 := Lib.hid (own_kept HO3.out hbreg); have HB4 := Lib.hid (HB3.out.trans (hbreg.mono hsn3)); have hsn4 := HB4.out.size; clear hbreg
            clear e0 e1 e2 e3 e4 e5 e6
            go_wp2_with (at_builtin; go_must (refine list_app rfl _ _ 24 rfl w.heap.size 40 i0 (.agg #[.int .i64 0, .int .i64 0, .int .i64 0, .int .i64 0, .int .i64 0, .int .i64 0, .int .i64 0]) 7 56 Tryd.underlying24 I0.out Z0.out Z1.out Z2.out rfl (by decide) _ pre.length (evV pre) rfl (HO4.out.alloc _) _ 1 1 #[.int .i64 x0, .int .i64 x1, .int .i64 x2, .int .i64 x3, .int .i64 x4, .int .i64 x5, .int .i64 x6].toList rfl (src_box _ _ #[.int .i64 x0, .int .i64 x1, .int .i64 x2, .int .i64 x3, .int .i64 x4, .int .i64 x5, .int .i64 x6] 7 rfl (by simp [Value.oneCell'])) (by unfold maxLen; omega) (by omega) (by simp; omega) ?_))
            intro A3 c3 w8 hown8 hgrow8 _
            have hb8 : Below w.heap.size w w8 := (HB4.out.alloc hsn4 _).grown hgrow8 (by simp; omega) (fun k hk => (HO4.out.lt k hk).1)
            have HO8 := Lib.hid hown8; have HB8 := Lib.hid hb8; clear hown8 hgrow8 hb8
            go_wp2_with fail
            go_roundw
            case rel => exact ⟨p + 1, q + 1, pre ++ [⟨x0, x1, x2, x3, x4, x5, x6⟩], by omega, by omega, by go_num, by go_num, mrgAt_e HAT.out HX.out HY.out H1.out H2.out rfl, by rw [List.length_append, evV_app, evV_one]; exact HO8.out, HB8.out⟩
            case measure => simp [intOf]; omega
          · skip
            have HE := Lib.hid he; clear he
            go_wp2_with fail
            have S0 : (fun W : World => (W.cell? ⟨ba, oa + p * 7, none⟩ = some (.int .i64 x0) ∧ W.cell? ⟨ba, oa + p * 7 + 1, none⟩ = some (.int .i64 x1) ∧ W.cell? ⟨ba, oa + p * 7 + 2, none⟩ = some (.int .i64 x2) ∧ W.cell? ⟨ba, oa + p * 7 + 3, none⟩ = some (.int .i64 x3) ∧ W.cell? ⟨ba, oa + p * 7 + 4, none⟩ = some (.int .i64 x4) ∧ W.cell? ⟨ba, oa + p * 7 + 5, none⟩ = some (.int .i64 x5) ∧ W.cell? ⟨ba, oa + p * 7 + 6, none⟩ = some (.int .i64 x6) ∧ W.cell? ⟨bb, ob + q * 7, none⟩ = some (.int .i64 y0) ∧ W.cell? ⟨bb, ob + q * 7 + 1, none⟩ = some (.int .i64 y1) ∧ W.cell? ⟨bb, ob + q * 7 + 2, none⟩ = some (.int .i64 y2) ∧ W.cell? ⟨bb, ob + q * 7 + 3, none⟩ = some (.int .i64 y3) ∧ W.cell? ⟨bb, ob + q * 7 + 4, none⟩ = some (.int .i64 y4) ∧ W.cell? ⟨bb, ob + q * 7 + 5, none⟩ = some (.int .i64 y5) ∧ W.cell? ⟨bb, ob + q * 7 + 6, none⟩ = some (.int .i64 y6)) ∧ Below wr.heap.size wr W) wr.drew := ⟨⟨hc0, hc1, hc2, hc3, hc4, hc5, hc6, hd0, hd1, hd2, hd3, hd4, hd5, hd6⟩, (Below.refl _ _).drew⟩
            refine wp_region_held_drew (S := (fun W : World => (W.cell? ⟨ba, oa + p * 7, none⟩ = some (.int .i64 x0) ∧ W.cell? ⟨ba, oa + p * 7 + 1, none⟩ = some (.int .i64 x1) ∧ W.cell? ⟨ba, oa + p * 7 + 2, none⟩ = some (.int .i64 x2) ∧ W.cell? ⟨ba, oa + p * 7 + 3, none⟩ = some (.int .i64 x3) ∧ W.cell? ⟨ba, oa + p * 7 + 4, none⟩ = some (.int .i64 x4) ∧ W.cell? ⟨ba, oa + p * 7 + 5, none⟩ = some (.int .i64 x5) ∧ W.cell? ⟨ba, oa + p * 7 + 6, none⟩ = some (.int .i64 x6) ∧ W.cell? ⟨bb, ob + q * 7, none⟩ = some (.int .i64 y0) ∧ W.cell? ⟨bb, ob + q * 7 + 1, none⟩ = some (.int .i64 y1) ∧ W.cell? ⟨bb, ob + q * 7 + 2, none⟩ = some (.int .i64 y2) ∧ W.cell? ⟨bb, ob + q * 7 + 3, none⟩ = some (.int .i64 y3) ∧ W.cell? ⟨bb, ob + q * 7 + 4, none⟩ = some (.int .i64 y4) ∧ W.cell? ⟨bb, ob + q * 7 + 5, none⟩ = some (.int .i64 y5) ∧ W.cell? ⟨bb, ob + q * 7 + 6, none⟩ = some (.int .i64 y6)) ∧ Below wr.heap.size wr W)) (by kernel_rfl) S0 (fun _ => ?_)
            refine any_take (i := 0) (some 40) (.int .i64 (q : Int)) rfl rfl (by kernel_rfl) (by kernel_rfl) (by kernel_rfl) (fun _ _ _ h => h) rfl (fun W hSw => ?_) (S0) ?_
            · (try dsimp only at hSw); go_simp <;> with_reducible rfl
            try simp only [Act.put, List.setIfInBounds_toArray, List.set_cons_zero, List.set_cons_succ]
            refine any_take (i := 1) (some 41) (.slice (some ⟨bb, ob, none⟩) m.length c2) rfl rfl (by kernel_rfl) (by kernel_rfl) (by kernel_rfl) (fun _ _ _ h => h) rfl (fun W hSw => ?_) (S0) ?_
            · (try dsimp only at hSw); go_simp <;> with_reducible rfl
            try simp only [Act.put, List.setIfInBounds_toArray, List.set_cons_zero, List.set_cons_succ]
            refine any_take (i := 2) (some 42) (.int .i64 (m.length : Int)) rfl rfl (by kernel_rfl) (by kernel_rfl) (by kernel_rfl) (fun _ _ _ h => h) rfl (fun W hSw => ?_) (S0) ?_
            · (try dsimp only at hSw); go_simp <;> with_reducible rfl
            try simp only [Act.put, List.setIfInBounds_toArray, List.set_cons_zero, List.set_cons_succ]
            refine any_take (i := 3) (some 43) (.bool false) rfl rfl (by kernel_rfl) (by kernel_rfl) (by kernel_rfl) (fun _ _ _ h => h) rfl (fun W hSw => ?_) (S0) ?_
            · (try dsimp only at hSw); go_simp <;> with_reducible rfl
            try simp only [Act.put, List.setIfInBounds_toArray, List.set_cons_zero, List.set_cons_succ]
            refine any_take (i := 4) (some 44) (.bool false) rfl rfl (by kernel_rfl) (by kernel_rfl) (by kernel_rfl) (fun _ _ _ h => h) rfl (fun W hSw => ?_) (S0) ?_
            · (try dsimp only at hSw); go_simp <;> with_reducible rfl
            try simp only [Act.put, List.setIfInBounds_toArray, List.set_cons_zero, List.set_cons_succ]
            refine any_take (i := 5) (some 45) (.int .i64 (p : Int)) rfl rfl (by kernel_rfl) (by kernel_rfl) (by kernel_rfl) (fun _ _ _ h => h) rfl (fun W hSw => ?_) (S0) ?_
            · (try dsimp only at hSw); go_simp <;> with_reducible rfl
            try simp only [Act.put, List.setIfInBounds_toArray, List.set_cons_zero, List.set_cons_succ]
            refine any_take (i := 6) (some 46) (.slice (some ⟨ba, oa, none⟩) l.length c) rfl rfl (by kernel_rfl) (by kernel_rfl) (by kernel_rfl) (fun _ _ _ h => h) rfl (fun W hSw => ?_) (S0) ?_
            · (try dsimp only at hSw); go_simp <;> with_reducible rfl
            try simp only [Act.put, List.setIfInBounds_toArray, List.set_cons_zero, List.set_cons_succ]
            refine any_take (i := 7) (some 47) (.int .i64 (l.length : Int)) rfl rfl (by kernel_rfl) (by kernel_rfl) (by kernel_rfl) (fun _ _ _ h => h) rfl (fun W hSw => ?_) (S0) ?_
            · (try dsimp only at hSw); go_simp <;> with_reducible rfl
            try simp only [Act.put, List.setIfInBounds_toArray, List.set_cons_zero, List.set_cons_succ]
            refine any_take (i := 8) (some 48) (.bool true) rfl rfl (by kernel_rfl) (by kernel_rfl) (by kernel_rfl) (fun _ _ _ h => h) rfl (fun W hSw => ?_) (S0) ?_
            · (try dsimp only at hSw); go_simp <;> with_reducible rfl
            try simp only [Act.put, List.setIfInBounds_toArray, List.set_cons_zero, List.set_cons_succ]
            refine any_take (i := 9) (some 49) (.bool true) rfl rfl (by kernel_rfl) (by kernel_rfl) (by kernel_rfl) (fun _ _ _ h => h) rfl (fun W hSw => ?_) (S0) ?_
            · (try dsimp only at hSw); go_simp <;> with_reducible rfl
            try simp only [Act.put, List.setIfInBounds_toArray, List.set_cons_zero, List.set_cons_succ]
            refine any_take (i := 10) (some 50) (.slice (some ⟨ba, oa, none⟩) l.length c) rfl rfl (by kernel_rfl) (by kernel_rfl) (by kernel_rfl) (fun _ _ _ h => h) rfl (fun W hSw => ?_) (S0) ?_
            · (try dsimp only at hSw); go_simp <;> with_reducible rfl
            try simp only [Act.put, List.setIfInBounds_toArray, List.set_cons_zero, List.set_cons_succ]
            refine any_take (i := 11) (some 51) (.int .i64 (p : Int)) rfl rfl (by kernel_rfl) (by kernel_rfl) (by kernel_rfl) (fun _ _ _ h => h) rfl (fun W hSw => ?_) (S0) ?_
            · (try dsimp only at hSw); go_simp <;> with_reducible rfl
            try simp only [Act.put, List.setIfInBounds_toArray, List.set_cons_zero, List.set_cons_succ]
            refine any_take (i := 12) (some 52) (.pointer (some ⟨ba, oa + p * 7, none⟩)) rfl rfl (by kernel_rfl) (by kernel_rfl) (by kernel_rfl) (fun _ _ _ h => h) rfl (fun W hSw => ?_) (S0) ?_
            · (try dsimp only at hSw); go_simp <;> with_reducible rfl
            try simp only [Act.put, List.setIfInBounds_toArray, List.set_cons_zero, List.set_cons_succ]
            refine any_take (i := 13) (some 53) (.agg #[.int .i64 x0, .int .i64 x1, .int .i64 x2, .int .i64 x3, .int .i64 x4, .int .i64 x5, .int .i64 x6]) rfl rfl (by kernel_rfl) (by kernel_rfl) (by kernel_rfl) (fun _ _ _ h => h) rfl (fun W hSw => ?_) (S0) ?_
            · (try dsimp only at hSw); go_simp <;> with_reducible rfl
            try simp only [Act.put, List.setIfInBounds_toArray, List.set_cons_zero, List.set_cons_succ]
            refine any_take (i := 14) (some 54) (.slice (some ⟨bb, ob, none⟩) m.length c2) rfl rfl (by kernel_rfl) (by kernel_rfl) (by kernel_rfl) (fun _ _ _ h => h) rfl (fun W hSw => ?_) (S0) ?_
            · (try dsimp only at hSw); go_simp <;> with_reducible rfl
            try simp only [Act.put, List.setIfInBounds_toArray, List.set_cons_zero, List.set_cons_succ]
            refine any_take (i := 15) (some 55) (.int .i64 (q : Int)) rfl rfl (by kernel_rfl) (by kernel_rfl) (by kernel_rfl) (fun _ _ _ h => h) rfl (fun W hSw => ?_) (S0) ?_
            · (try dsimp only at hSw); go_simp <;> with_reducible rfl
            try simp only [Act.put, List.setIfInBounds_toArray, List.set_cons_zero, List.set_cons_succ]
            refine any_take (i := 16) (some 56) (.pointer (some ⟨bb, ob + q * 7, none⟩)) rfl rfl (by kernel_rfl) (by kernel_rfl) (by kernel_rfl) (fun _ _ _ h => h) rfl (fun W hSw => ?_) (S0) ?_
            · (try dsimp only at hSw); go_simp <;> with_reducible rfl
            try simp only [Act.put, List.setIfInBounds_toArray, List.set_cons_zero, List.set_cons_succ]
            refine any_take (i := 17) (some 57) (.agg #[.int .i64 y0, .int .i64 y1, .int .i64 y2, .int .i64 y3, .int .i64 y4, .int .i64 y5, .int .i64 y6]) rfl rfl (by kernel_rfl) (by kernel_rfl) (by kernel_rfl) (fun _ _ _ h => h) rfl (fun W hSw => ?_) (S0) ?_
            · (try dsimp only at hSw); go_simp <;> with_reducible rfl
            try simp only [Act.put, List.setIfInBounds_toArray, List.set_cons_zero, List.set_cons_succ]
            refine wpAnyH_ready (rs := [18]) (by kernel_rfl) (by simp) ?_
            refine AllReadyH.cons rfl (fun K hK => ?_) AllReadyH.nil
            go_simp
            go_at_call 17
            refine (befS_any _ x0 x1 x2 x3 x4 x5 x6 y0 y1 y2 y3 y4 y5 y6).mono ?_
            rintro e wa ⟨rfl, hb8⟩
            rw [H1.out]
            have hb9wa : Below wr.heap.size wr wa := bthen ((Below.refl _ _).drew : Below wr.heap.size wr wr.drew) hb8
            have Swa : (fun W : World => (W.cell? ⟨ba, oa + p * 7, none⟩ = some (.int .i64 x0) ∧ W.cell? ⟨ba, oa + p * 7 + 1, none⟩ = some (.int .i64 x1) ∧ W.cell? ⟨ba, oa + p * 7 + 2, none⟩ = some (.int .i64 x2) ∧ W.cell? ⟨ba, oa + p * 7 + 3, none⟩ = some (.int .i64 x3) ∧ W.cell? ⟨ba, oa + p * 7 + 4, none⟩ = some (.int .i64 x4) ∧ W.cell? ⟨ba, oa + p * 7 + 5, none⟩ = some (.int .i64 x5) ∧ W.cell? ⟨ba, oa + p * 7 + 6, none⟩ = some (.int .i64 x6) ∧ W.cell? ⟨bb, ob + q * 7, none⟩ = some (.int .i64 y0) ∧ W.cell? ⟨bb, ob + q * 7 + 1, none⟩ = some (.int .i64 y1) ∧ W.cell? ⟨bb, ob + q * 7 + 2, none⟩ = some (.int .i64 y2) ∧ W.cell? ⟨bb, ob + q * 7 + 3, none⟩ = some (.int .i64 y3) ∧ W.cell? ⟨bb, ob + q * 7 + 4, none⟩ = some (.int .i64 y4) ∧ W.cell? ⟨bb, ob + q * 7 + 5, none⟩ = some (.int .i64 y5) ∧ W.cell? ⟨bb, ob + q * 7 + 6, none⟩ = some (.int .i64 y6)) ∧ Below wr.heap.size wr W) wa := ⟨⟨(bold hb9wa _ _ (hba)).trans S0.1.1, (bold hb9wa _ _ (hba)).trans S0.1.2.1, (bold hb9wa _ _ (hba)).trans S0.1.2.2.1, (bold hb9wa _ _ (hba)).trans S0.1.2.2.2.1, (bold hb9wa _ _ (hba)).trans S0.1.2.2.2.2.1, (bold hb9wa _ _ (hba)).trans S0.1.2.2.2.2.2.1, (bold hb9wa _ _ (hba)).trans S0.1.2.2.2.2.2.2.1, (bold hb9wa _ _ (hbb)).trans S0.1.2.2.2.2.2.2.2.1, (bold hb9wa _ _ (hbb)).trans S0.1.2.2.2.2.2.2.2.2.1, (bold hb9wa _ _ (hbb)).trans S0.1.2.2.2.2.2.2.2.2.2.1, (bold hb9wa _ _ (hbb)).trans S0.1.2.2.2.2.2.2.2.2.2.2.1, (bold hb9wa _ _ (hbb)).trans S0.1.2.2.2.2.2.2.2.2.2.2.2.1, (bold hb9wa _ _ (hbb)).trans S0.1.2.2.2.2.2.2.2.2.2.2.2.2.1, (bold hb9wa _ _ (hbb)).trans S0.1.2.2.2.2.2.2.2.2.2.2.2.2.2⟩, hb9wa⟩
            clear hb8
            go_wp2_with fail
            refine hK.out _ _ Swa (fun _ => ?_)
            clear hK K
            try simp only [Act.put, List.setIfInBounds_toArray, List.set_cons_zero, List.set_cons_succ]
            refine any_take (i := 19) (some 59) (.bool false) rfl rfl (by kernel_rfl) (by kernel_rfl) (by kernel_rfl) (fun _ _ _ h => h) rfl (fun W hSw => ?_) (Swa) ?_
            · (try dsimp only at hSw); go_simp <;> with_reducible rfl
            try simp only [Act.put, List.setIfInBounds_toArray, List.set_cons_zero, List.set_cons_succ]
            refine any_take (i := 20) (some 60) (.bool false) rfl rfl (by kernel_rfl) (by kernel_rfl) (by kernel_rfl) (fun _ _ _ h => h) rfl (fun W hSw => ?_) (Swa) ?_
            · (try dsimp only at hSw); go_simp <;> with_reducible rfl
            try simp only [Act.put, List.setIfInBounds_toArray, List.set_cons_zero, List.set_cons_succ]
            refine any_take (i := 21) (some 39) (.bool false) rfl rfl (by kernel_rfl) (by kernel_rfl) (by kernel_rfl) (fun _ _ _ h => h) rfl (fun W hSw => ?_) (Swa) ?_
            · (try dsimp only at hSw); go_simp <;> with_reducible rfl
            try simp only [Act.put, List.setIfInBounds_toArray, List.set_cons_zero, List.set_cons_succ]
            refine wpAnyH_done (by kernel_rfl) ?_ _
            have hbreg : Below wr.heap.size wr wa := Swa.2
            clear S0 Swa hb9wa
            replace hc0 := (bold hbreg _ _ hba).trans hc0; replace hc1 := (bold hbreg _ _ hba).trans hc1; replace hc2 := (bold hbreg _ _ hba).trans hc2; replace hc3 := (bold hbreg _ _ hba).trans hc3; replace hc4 := (bold hbreg _ _ hba).trans hc4; replace hc5 := (bold hbreg _ _ hba).trans hc5; replace hc6 := (bold hbreg _ _ hba).trans hc6
            replace hd0 := (bold hbreg _ _ hbb).trans hd0; replace hd1 := (bold hbreg _ _ hbb).trans hd1; replace hd2 := (bold hbreg _ _ hbb).trans hd2; replace hd3 := (bold hbreg _ _ hbb).trans hd3; replace hd4 := (bold hbreg _ _ hbb).trans hd4; replace hd5 := (bold hbreg _ _ hbb).trans hd5; replace hd6 := (bold hbreg _ _ hbb).trans hd6
            have HO2 := Lib.hid (own_kept HO.out hbreg); have HB2 := Lib.hid (HB.out.trans (hbreg.mono hsz)); have hsn := HB2.out.size
            have hba2 : ba < wa.heap.size := by have := hbreg.size; omega
            have hbb2 : bb < wa.heap.size := by have := hbreg.size; omega
            clear hbreg
            go_wp2_with fail
            have S0 : (fun W : World => (W.cell? ⟨ba, oa + p * 7, none⟩ = some (.int .i64 x0) ∧ W.cell? ⟨ba, oa + p * 7 + 1, none⟩ = some (.int .i64 x1) ∧ W.cell? ⟨ba, oa + p * 7 + 2, none⟩ = some (.int .i64 x2) ∧ W.cell? ⟨ba, oa + p * 7 + 3, none⟩ = some (.int .i64 x3) ∧ W.cell? ⟨ba, oa + p * 7 + 4, none⟩ = some (.int .i64 x4) ∧ W.cell? ⟨ba, oa + p * 7 + 5, none⟩ = some (.int .i64 x5) ∧ W.cell? ⟨ba, oa + p * 7 + 6, none⟩ = some (.int .i64 x6) ∧ W.cell? ⟨bb, ob + q * 7, none⟩ = some (.int .i64 y0) ∧ W.cell? ⟨bb, ob + q * 7 + 1, none⟩ = some (.int .i64 y1) ∧ W.cell? ⟨bb, ob + q * 7 + 2, none⟩ = some (.int .i64 y2) ∧ W.cell? ⟨bb, ob + q * 7 + 3, none⟩ = some (.int .i64 y3) ∧ W.cell? ⟨bb, ob + q * 7 + 4, none⟩ = some (.int .i64 y4) ∧ W.cell? ⟨bb, ob + q * 7 + 5, none⟩ = some (.int .i64 y5) ∧ W.cell? ⟨bb, ob + q * 7 + 6, none⟩ = some (.int .i64 y6)) ∧ Below wa.heap.size wa W) wa.drew := ⟨⟨hc0, hc1, hc2, hc3, hc4, hc5, hc6, hd0, hd1, hd2, hd3, hd4, hd5, hd6⟩, (Below.refl _ _).drew⟩
            refine wp_region_held_drew (S := (fun W : World => (W.cell? ⟨ba, oa + p * 7, none⟩ = some (.int .i64 x0) ∧ W.cell? ⟨ba, oa + p * 7 + 1, none⟩ = some (.int .i64 x1) ∧ W.cell? ⟨ba, oa + p * 7 + 2, none⟩ = some (.int .i64 x2) ∧ W.cell? ⟨ba, oa + p * 7 + 3, none⟩ = some (.int .i64 x3) ∧ W.cell? ⟨ba, oa + p * 7 + 4, none⟩ = some (.int .i64 x4) ∧ W.cell? ⟨ba, oa + p * 7 + 5, none⟩ = some (.int .i64 x5) ∧ W.cell? ⟨ba, oa + p * 7 + 6, none⟩ = some (.int .i64 x6) ∧ W.cell? ⟨bb, ob + q * 7, none⟩ = some (.int .i64 y0) ∧ W.cell? ⟨bb, ob + q * 7 + 1, none⟩ = some (.int .i64 y1) ∧ W.cell? ⟨bb, ob + q * 7 + 2, none⟩ = some (.int .i64 y2) ∧ W.cell? ⟨bb, ob + q * 7 + 3, none⟩ = some (.int .i64 y3) ∧ W.cell? ⟨bb, ob + q * 7 + 4, none⟩ = some (.int .i64 y4) ∧ W.cell? ⟨bb, ob + q * 7 + 5, none⟩ = some (.int .i64 y5) ∧ W.cell? ⟨bb, ob + q * 7 + 6, none⟩ = some (.int .i64 y6)) ∧ Below wa.heap.size wa W)) (by kernel_rfl) S0 (fun _ => ?_)
            refine any_take (i := 0) (some 71) (.int .i64 (p : Int)) rfl rfl (by kernel_rfl) (by kernel_rfl) (by kernel_rfl) (fun _ _ _ h => h) rfl (fun W hSw => ?_) (S0) ?_
            · (try dsimp only at hSw); go_simp <;> with_reducible rfl
            try simp only [Act.put, List.setIfInBounds_toArray, List.set_cons_zero, List.set_cons_succ]
            refine any_take (i := 1) (some 72) (.slice (some ⟨ba, oa, none⟩) l.length c) rfl rfl (by kernel_rfl) (by kernel_rfl) (by kernel_rfl) (fun _ _ _ h => h) rfl (fun W hSw => ?_) (S0) ?_
            · (try dsimp only at hSw); go_simp <;> with_reducible rfl
            try simp only [Act.put, List.setIfInBounds_toArray, List.set_cons_zero, List.set_cons_succ]
            refine any_take (i := 2) (some 73) (.int .i64 (l.length : Int)) rfl rfl (by kernel_rfl) (by kernel_rfl) (by kernel_rfl) (fun _ _ _ h => h) rfl (fun W hSw => ?_) (S0) ?_
            · (try dsimp only at hSw); go_simp <;> with_reducible rfl
            try simp only [Act.put, List.setIfInBounds_toArray, List.set_cons_zero, List.set_cons_succ]
            refine any_take (i := 3) (some 74) (.bool false) rfl rfl (by kernel_rfl) (by kernel_rfl) (by kernel_rfl) (fun _ _ _ h => h) rfl (fun W hSw => ?_) (S0) ?_
            · (try dsimp only at hSw); go_simp <;> with_reducible rfl
            try simp only [Act.put, List.setIfInBounds_toArray, List.set_cons_zero, List.set_cons_succ]
            refine any_take (i := 4) (some 75) (.bool false) rfl rfl (by kernel_rfl) (by kernel_rfl) (by kernel_rfl) (fun _ _ _ h => h) rfl (fun W hSw => ?_) (S0) ?_
            · (try dsimp only at hSw); go_simp <;> with_reducible rfl
            try simp only [Act.put, List.setIfInBounds_toArray, List.set_cons_zero, List.set_cons_succ]
            refine any_take (i := 5) (some 76) (.slice (some ⟨bb, ob, none⟩) m.length c2) rfl rfl (by kernel_rfl) (by kernel_rfl) (by kernel_rfl) (fun _ _ _ h => h) rfl (fun W hSw => ?_) (S0) ?_
            · (try dsimp only at hSw); go_simp <;> with_reducible rfl
            try simp only [Act.put, List.setIfInBounds_toArray, List.set_cons_zero, List.set_cons_succ]
            refine any_take (i := 6) (some 77) (.int .i64 (q : Int)) rfl rfl (by kernel_rfl) (by kernel_rfl) (by kernel_rfl) (fun _ _ _ h => h) rfl (fun W hSw => ?_) (S0) ?_
            · (try dsimp only at hSw); go_simp <;> with_reducible rfl
            try simp only [Act.put, List.setIfInBounds_toArray, List.set_cons_zero, List.set_cons_succ]
            refine any_take (i := 7) (some 78) (.pointer (some ⟨bb, ob + q * 7, none⟩)) rfl rfl (by kernel_rfl) (by kernel_rfl) (by kernel_rfl) (fun _ _ _ h => h) rfl (fun W hSw => ?_) (S0) ?_
            · (try dsimp only at hSw); go_simp <;> with_reducible rfl
            try simp only [Act.put, List.setIfInBounds_toArray, List.set_cons_zero, List.set_cons_succ]
            refine any_take (i := 8) (some 79) (.agg #[.int .i64 y0, .int .i64 y1, .int .i64 y2, .int .i64 y3, .int .i64 y4, .int .i64 y5, .int .i64 y6]) rfl rfl (by kernel_rfl) (by kernel_rfl) (by kernel_rfl) (fun _ _ _ h => h) rfl (fun W hSw => ?_) (S0) ?_
            · (try dsimp only at hSw); go_simp <;> with_reducible rfl
            try simp only [Act.put, List.setIfInBounds_toArray, List.set_cons_zero, List.set_cons_succ]
            refine any_take (i := 9) (some 80) (.slice (some ⟨ba, oa, none⟩) l.length c) rfl rfl (by kernel_rfl) (by kernel_rfl) (by kernel_rfl) (fun _ _ _ h => h) rfl (fun W hSw => ?_) (S0) ?_
            · (try dsimp only at hSw); go_simp <;> with_reducible rfl
            try simp only [Act.put, List.setIfInBounds_toArray, List.set_cons_zero, List.set_cons_succ]
            refine any_take (i := 10) (some 81) (.int .i64 (p : Int)) rfl rfl (by kernel_rfl) (by kernel_rfl) (by kernel_rfl) (fun _ _ _ h => h) rfl (fun W hSw => ?_) (S0) ?_
            · (try dsimp only at hSw); go_simp <;> with_reducible rfl
            try simp only [Act.put, List.setIfInBounds_toArray, List.set_cons_zero, List.set_cons_succ]
            refine any_take (i := 11) (some 82) (.pointer (some ⟨ba, oa + p * 7, none⟩)) rfl rfl (by kernel_rfl) (by kernel_rfl) (by kernel_rfl) (fun _ _ _ h => h) rfl (fun W hSw => ?_) (S0) ?_
            · (try dsimp only at hSw); go_simp <;> with_reducible rfl
            try simp only [Act.put, List.setIfInBounds_toArray, List.set_cons_zero, List.set_cons_succ]
            refine any_take (i := 12) (some 83) (.agg #[.int .i64 x0, .int .i64 x1, .int .i64 x2, .int .i64 x3, .int .i64 x4, .int .i64 x5, .int .i64 x6]) rfl rfl (by kernel_rfl) (by kernel_rfl) (by kernel_rfl) (fun _ _ _ h => h) rfl (fun W hSw => ?_) (S0) ?_
            · (try dsimp only at hSw); go_simp <;> with_reducible rfl
            try simp only [Act.put, List.setIfInBounds_toArray, List.set_cons_zero, List.set_cons_succ]
            refine wpAnyH_ready (rs := [13]) (by kernel_rfl) (by simp) ?_
            refine AllReadyH.cons rfl (fun K hK => ?_) AllReadyH.nil
            go_simp
            go_at_call 17
            refine (befS_any _ y0 y1 y2 y3 y4 y5 y6 x0 x1 x2 x3 x4 x5 x6).mono ?_
            rintro e wb ⟨rfl, hb8⟩
            rw [H2.out]
            have hb9wb : Below wa.heap.size wa wb := bthen ((Below.refl _ _).drew : Below wa.heap.size wa wa.drew) hb8
            have Swb : (fun W : World => (W.cell? ⟨ba, oa + p * 7, none⟩ = some (.int .i64 x0) ∧ W.cell? ⟨ba, oa + p * 7 + 1, none⟩ = some (.int .i64 x1) ∧ W.cell? ⟨ba, oa + p * 7 + 2, none⟩ = some (.int .i64 x2) ∧ W.cell? ⟨ba, oa + p * 7 + 3, none⟩ = some (.int .i64 x3) ∧ W.cell? ⟨ba, oa + p * 7 + 4, none⟩ = some (.int .i64 x4) ∧ W.cell? ⟨ba, oa + p * 7 + 5, none⟩ = some (.int .i64 x5) ∧ W.cell? ⟨ba, oa + p * 7 + 6, none⟩ = some (.int .i64 x6) ∧ W.cell? ⟨bb, ob + q * 7, none⟩ = some (.int .i64 y0) ∧ W.cell? ⟨bb, ob + q * 7 + 1, none⟩ = some (.int .i64 y1) ∧ W.cell? ⟨bb, ob + q * 7 + 2, none⟩ = some (.int .i64 y2) ∧ W.cell? ⟨bb, ob + q * 7 + 3, none⟩ = some (.int .i64 y3) ∧ W.cell? ⟨bb, ob + q * 7 + 4, none⟩ = some (.int .i64 y4) ∧ W.cell? ⟨bb, ob + q * 7 + 5, none⟩ = some (.int .i64 y5) ∧ W.cell? ⟨bb, ob + q * 7 + 6, none⟩ = some (.int .i64 y6)) ∧ Below wa.heap.size wa W) wb := ⟨⟨(bold hb9wb _ _ (hba2)).trans S0.1.1, (bold hb9wb _ _ (hba2)).trans S0.1.2.1, (bold hb9wb _ _ (hba2)).trans S0.1.2.2.1, (bold hb9wb _ _ (hba2)).trans S0.1.2.2.2.1, (bold hb9wb _ _ (hba2)).trans S0.1.2.2.2.2.1, (bold hb9wb _ _ (hba2)).trans S0.1.2.2.2.2.2.1, (bold hb9wb _ _ (hba2)).trans S0.1.2.2.2.2.2.2.1, (bold hb9wb _ _ (hbb2)).trans S0.1.2.2.2.2.2.2.2.1, (bold hb9wb _ _ (hbb2)).trans S0.1.2.2.2.2.2.2.2.2.1, (bold hb9wb _ _ (hbb2)).trans S0.1.2.2.2.2.2.2.2.2.2.1, (bold hb9wb _ _ (hbb2)).trans S0.1.2.2.2.2.2.2.2.2.2.2.1, (bold hb9wb _ _ (hbb2)).trans S0.1.2.2.2.2.2.2.2.2.2.2.2.1, (bold hb9wb _ _ (hbb2)).trans S0.1.2.2.2.2.2.2.2.2.2.2.2.2.1, (bold hb9wb _ _ (hbb2)).trans S0.1.2.2.2.2.2.2.2.2.2.2.2.2.2⟩, hb9wb⟩
            clear hb8
            go_wp2_with fail
            refine hK.out _ _ Swb (fun _ => ?_)
            clear hK K
            try simp only [Act.put, List.setIfInBounds_toArray, List.set_cons_zero, List.set_cons_succ]
            refine any_take (i := 14) (some 85) (.bool false) rfl rfl (by kernel_rfl) (by kernel_rfl) (by kernel_rfl) (fun _ _ _ h => h) rfl (fun W hSw => ?_) (Swb) ?_
            · (try dsimp only at hSw); go_simp <;> with_reducible rfl
            try simp only [Act.put, List.setIfInBounds_toArray, List.set_cons_zero, List.set_cons_succ]
            refine any_take (i := 15) (some 70) (.bool false) rfl rfl (by kernel_rfl) (by kernel_rfl) (by kernel_rfl) (fun _ _ _ h => h) rfl (fun W hSw => ?_) (Swb) ?_
            · (try dsimp only at hSw); go_simp <;> with_reducible rfl
            try simp only [Act.put, List.setIfInBounds_toArray, List.set_cons_zero, List.set_cons_succ]
            refine wpAnyH_done (by kernel_rfl) ?_ _
            have hbreg : Below wa.heap.size wa wb := Swb.2
            clear S0 Swb hb9wb
            replace hc0 := (bold hbreg _ _ hba2).trans hc0; replace hc1 := (bold hbreg _ _ hba2).trans hc1; replace hc2 := (bold hbreg _ _ hba2).trans hc2; replace hc3 := (bold hbreg _ _ hba2).trans hc3; replace hc4 := (bold hbreg _ _ hba2).trans hc4; replace hc5 := (bold hbreg _ _ hba2).trans hc5; replace hc6 := (bold hbreg _ _ hba2).trans hc6
            replace hd0 := (bold hbreg _ _ hbb2).trans hd0; replace hd1 := (bold hbreg _ _ hbb2).trans hd1; replace hd2 := (bold hbreg _ _ hbb2).trans hd2; replace hd3 := (bold hbreg _ _ hbb2).trans hd3; replace hd4 := (bold hbreg _ _ hbb2).trans hd4; replace hd5 := (bold hbreg _ _ hbb2).trans hd5; replace hd6 := (bold hbreg _ _ hbb2).trans hd6
            have HO3 := Lib.hid (own_kept HO2.out hbreg); have HB3 := Lib.hid (HB2.out.trans (hbreg.mono hsn)); have hsn3 := HB3.out.size
            have hba3 : ba < wb.heap.size := by have := hbreg.size; omega
            have hbb3 : bb < wb.heap.size := by have := hbreg.size; omega
            clear hbreg hqe hpe hpd
            go_wp2_with fail
            have S0 : (fun W : World => (W.cell? ⟨ba, oa + p * 7, none⟩ = some (.int .i64 x0) ∧ W.cell? ⟨ba, oa + p * 7 + 1, none⟩ = some (.int .i64 x1) ∧ W.cell? ⟨ba, oa + p * 7 + 2, none⟩ = some (.int .i64 x2) ∧ W.cell? ⟨ba, oa + p * 7 + 3, none⟩ = some (.int .i64 x3) ∧ W.cell? ⟨ba, oa + p * 7 + 4, none⟩ = some (.int .i64 x4) ∧ W.cell? ⟨ba, oa + p * 7 + 5, none⟩ = some (.int .i64 x5) ∧ W.cell? ⟨ba, oa + p * 7 + 6, none⟩ = some (.int .i64 x6) ∧ W.cell? ⟨bb, ob + q * 7, none⟩ = some (.int .i64 y0) ∧ W.cell? ⟨bb, ob + q * 7 + 1, none⟩ = some (.int .i64 y1) ∧ W.cell? ⟨bb, ob + q * 7 + 2, none⟩ = some (.int .i64 y2) ∧ W.cell? ⟨bb, ob + q * 7 + 3, none⟩ = some (.int .i64 y3) ∧ W.cell? ⟨bb, ob + q * 7 + 4, none⟩ = some (.int .i64 y4) ∧ W.cell? ⟨bb, ob + q * 7 + 5, none⟩ = some (.int .i64 y5) ∧ W.cell? ⟨bb, ob + q * 7 + 6, none⟩ = some (.int .i64 y6)) ∧ Below wb.heap.size wb W) wb.drew := ⟨⟨hc0, hc1, hc2, hc3, hc4, hc5, hc6, hd0, hd1, hd2, hd3, hd4, hd5, hd6⟩, (Below.refl _ _).drew⟩
            refine wp_region_held_drew (S := (fun W : World => (W.cell? ⟨ba, oa + p * 7, none⟩ = some (.int .i64 x0) ∧ W.cell? ⟨ba, oa + p * 7 + 1, none⟩ = some (.int .i64 x1) ∧ W.cell? ⟨ba, oa + p * 7 + 2, none⟩ = some (.int .i64 x2) ∧ W.cell? ⟨ba, oa + p * 7 + 3, none⟩ = some (.int .i64 x3) ∧ W.cell? ⟨ba, oa + p * 7 + 4, none⟩ = some (.int .i64 x4) ∧ W.cell? ⟨ba, oa + p * 7 + 5, none⟩ = some (.int .i64 x5) ∧ W.cell? ⟨ba, oa + p * 7 + 6, none⟩ = some (.int .i64 x6) ∧ W.cell? ⟨bb, ob + q * 7, none⟩ = some (.int .i64 y0) ∧ W.cell? ⟨bb, ob + q * 7 + 1, none⟩ = some (.int .i64 y1) ∧ W.cell? ⟨bb, ob + q * 7 + 2, none⟩ = some (.int .i64 y2) ∧ W.cell? ⟨bb, ob + q * 7 + 3, none⟩ = some (.int .i64 y3) ∧ W.cell? ⟨bb, ob + q * 7 + 4, none⟩ = some (.int .i64 y4) ∧ W.cell? ⟨bb, ob + q * 7 + 5, none⟩ = some (.int .i64 y5) ∧ W.cell? ⟨bb, ob + q * 7 + 6, none⟩ = some (.int .i64 y6)) ∧ Below wb.heap.size wb W)) (by kernel_rfl) S0 (fun _ => ?_)
            refine any_take (i := 0) (some 96) (.slice (some ⟨ba, oa, none⟩) l.length c) rfl rfl (by kernel_rfl) (by kernel_rfl) (by kernel_rfl) (fun _ _ _ h => h) rfl (fun W hSw => ?_) (S0) ?_
            · (try dsimp only at hSw); go_simp <;> with_reducible rfl
            try simp only [Act.put, List.setIfInBounds_toArray, List.set_cons_zero, List.set_cons_succ]
            refine any_take (i := 1) (some 97) (.int .i64 (p : Int)) rfl rfl (by kernel_rfl) (by kernel_rfl) (by kernel_rfl) (fun _ _ _ h => h) rfl (fun W hSw => ?_) (S0) ?_
            · (try dsimp only at hSw); go_simp <;> with_reducible rfl
            try simp only [Act.put, List.setIfInBounds_toArray, List.set_cons_zero, List.set_cons_succ]
            refine any_take (i := 2) (some 98) (.pointer (some ⟨ba, oa + p * 7, none⟩)) rfl rfl (by kernel_rfl) (by kernel_rfl) (by kernel_rfl) (fun _ _ _ h => h) rfl (fun W hSw => ?_) (S0) ?_
            · (try dsimp only at hSw); go_simp <;> with_reducible rfl
            try simp only [Act.put, List.setIfInBounds_toArray, List.set_cons_zero, List.set_cons_succ]
            refine any_take (i := 3) (some 99) (.agg #[.int .i64 x0, .int .i64 x1, .int .i64 x2, .int .i64 x3, .int .i64 x4, .int .i64 x5, .int .i64 x6]) rfl rfl (by kernel_rfl) (by kernel_rfl) (by kernel_rfl) (fun _ _ _ h => h) rfl (fun W hSw => ?_) (S0) ?_
            · (try dsimp only at hSw); go_simp <;> with_reducible rfl
            try simp only [Act.put, List.setIfInBounds_toArray, List.set_cons_zero, List.set_cons_succ]
            refine any_take (i := 4) (some 100) (.slice (some ⟨bb, ob, none⟩) m.length c2) rfl rfl (by kernel_rfl) (by kernel_rfl) (by kernel_rfl) (fun _ _ _ h => h) rfl (fun W hSw => ?_) (S0) ?_
            · (try dsimp only at hSw); go_simp <;> with_reducible rfl
            try simp only [Act.put, List.setIfInBounds_toArray, List.set_cons_zero, List.set_cons_succ]
            refine any_take (i := 5) (some 101) (.int .i64 (q : Int)) rfl rfl (by kernel_rfl) (by kernel_rfl) (by kernel_rfl) (fun _ _ _ h => h) rfl (fun W hSw => ?_) (S0) ?_
            · (try dsimp only at hSw); go_simp <;> with_reducible rfl
            try simp only [Act.put, List.setIfInBounds_toArray, List.set_cons_zero, List.set_cons_succ]
            refine any_take (i := 6) (some 102) (.pointer (some ⟨bb, ob + q * 7, none⟩)) rfl rfl (by kernel_rfl) (by kernel_rfl) (by kernel_rfl) (fun _ _ _ h => h) rfl (fun W hSw => ?_) (S0) ?_
            · (try dsimp only at hSw); go_simp <;> with_reducible rfl
            try simp only [Act.put, List.setIfInBounds_toArray, List.set_cons_zero, List.set_cons_succ]
            refine any_take (i := 7) (some 103) (.agg #[.int .i64 y0, .int .i64 y1, .int .i64 y2, .int .i64 y3, .int .i64 y4, .int .i64 y5, .int .i64 y6]) rfl rfl (by kernel_rfl) (by kernel_rfl) (by kernel_rfl) (fun _ _ _ h => h) rfl (fun W hSw => ?_) (S0) ?_
            · (try dsimp only at hSw); go_simp <;> with_reducible rfl
            try simp only [Act.put, List.setIfInBounds_toArray, List.set_cons_zero, List.set_cons_succ]
            refine any_take (i := 8) (some 104) (.bool true) rfl rfl (by kernel_rfl) (by kernel_rfl) (by kernel_rfl) (fun _ _ _ h => h) rfl (fun W hSw => ?_) (S0) ?_
            · (try dsimp only at hSw); go_simp; exact ev_ne8 HE.out
            try simp only [Act.put, List.setIfInBounds_toArray, List.set_cons_zero, List.set_cons_succ]
            refine any_take (i := 9) (some 95) (.bool true) rfl rfl (by kernel_rfl) (by kernel_rfl) (by kernel_rfl) (fun _ _ _ h => h) rfl (fun W hSw => ?_) (S0) ?_
            · (try dsimp only at hSw); go_simp <;> with_reducible rfl
            try simp only [Act.put, List.setIfInBounds_toArray, List.set_cons_zero, List.set_cons_succ]
            refine wpAnyH_done (by kernel_rfl) ?_ _
            have hbreg : Below wb.heap.size wb wb.drew := S0.2
            clear S0
            generalize wb.drew = wc at hbreg ⊢
            replace hc0 := (bold hbreg _ _ hba3).trans hc0; replace hc1 := (bold hbreg _ _ hba3).trans hc1; replace hc2 := (bold hbreg _ _ hba3).trans hc2; replace hc3 := (bold hbreg _ _ hba3).trans hc3; replace hc4 := (bold hbreg _ _ hba3).trans hc4; replace hc5 := (bold hbreg _ _ hba3).trans hc5; replace hc6 := (bold hbreg _ _ hba3).trans hc6
            have HO4 := Lib.hid (own_kept HO3.out hbreg); have HB4 := Lib.hid (HB3.out.trans (hbreg.mono hsn3)); have hsn4 := HB4.out.size; clear hbreg
            go_wp2_with fail
            go_ret2
            rw [mergeE_none (mrgAt_n HAT.out HX.out HY.out H1.out H2.out HE.out)]
            exact ⟨none, 0, Nat.le_refl _, rfl, .inl rfl, HB4.out⟩
        · skip
          have H2 := Lib.hid h2; clear h2
          go_wp2_with fail
          have S0 : (fun W : World => (W.cell? ⟨ba, oa + p * 7, none⟩ = some (.int .i64 x0) ∧ W.cell? ⟨ba, oa + p * 7 + 1, none⟩ = some (.int .i64 x1) ∧ W.cell? ⟨ba, oa + p * 7 + 2, none⟩ = some (.int .i64 x2) ∧ W.cell? ⟨ba, oa + p * 7 + 3, none⟩ = some (.int .i64 x3) ∧ W.cell? ⟨ba, oa + p * 7 + 4, none⟩ = some (.int .i64 x4) ∧ W.cell? ⟨ba, oa + p * 7 + 5, none⟩ = some (.int .i64 x5) ∧ W.cell? ⟨ba, oa + p * 7 + 6, none⟩ = some (.int .i64 x6) ∧ W.cell? ⟨bb, ob + q * 7, none⟩ = some (.int .i64 y0) ∧ W.cell? ⟨bb, ob + q * 7 + 1, none⟩ = some (.int .i64 y1) ∧ W.cell? ⟨bb, ob + q * 7 + 2, none⟩ = some (.int .i64 y2) ∧ W.cell? ⟨bb, ob + q * 7 + 3, none⟩ = some (.int .i64 y3) ∧ W.cell? ⟨bb, ob + q * 7 + 4, none⟩ = some (.int .i64 y4) ∧ W.cell? ⟨bb, ob + q * 7 + 5, none⟩ = some (.int .i64 y5) ∧ W.cell? ⟨bb, ob + q * 7 + 6, none⟩ = some (.int .i64 y6)) ∧ Below wr.heap.size wr W) wr.drew := ⟨⟨hc0, hc1, hc2, hc3, hc4, hc5, hc6, hd0, hd1, hd2, hd3, hd4, hd5, hd6⟩, (Below.refl _ _).drew⟩
          refine wp_region_held_drew (S := (fun W : World => (W.cell? ⟨ba, oa + p * 7, none⟩ = some (.int .i64 x0) ∧ W.cell? ⟨ba, oa + p * 7 + 1, none⟩ = some (.int .i64 x1) ∧ W.cell? ⟨ba, oa + p * 7 + 2, none⟩ = some (.int .i64 x2) ∧ W.cell? ⟨ba, oa + p * 7 + 3, none⟩ = some (.int .i64 x3) ∧ W.cell? ⟨ba, oa + p * 7 + 4, none⟩ = some (.int .i64 x4) ∧ W.cell? ⟨ba, oa + p * 7 + 5, none⟩ = some (.int .i64 x5) ∧ W.cell? ⟨ba, oa + p * 7 + 6, none⟩ = some (.int .i64 x6) ∧ W.cell? ⟨bb, ob + q * 7, none⟩ = some (.int .i64 y0) ∧ W.cell? ⟨bb, ob + q * 7 + 1, none⟩ = some (.int .i64 y1) ∧ W.cell? ⟨bb, ob + q * 7 + 2, none⟩ = some (.int .i64 y2) ∧ W.cell? ⟨bb, ob + q * 7 + 3, none⟩ = some (.int .i64 y3) ∧ W.cell? ⟨bb, ob + q * 7 + 4, none⟩ = some (.int .i64 y4) ∧ W.cell? ⟨bb, ob + q * 7 + 5, none⟩ = some (.int .i64 y5) ∧ W.cell? ⟨bb, ob + q * 7 + 6, none⟩ = some (.int .i64 y6)) ∧ Below wr.heap.size wr W)) (by kernel_rfl) S0 (fun _ => ?_)
          refine any_take (i := 0) (some 40) (.int .i64 (q : Int)) rfl rfl (by kernel_rfl) (by kernel_rfl) (by kernel_rfl) (fun _ _ _ h => h) rfl (fun W hSw => ?_) (S0) ?_
          · (try dsimp only at hSw); go_simp <;> with_reducible rfl
          try simp only [Act.put, List.setIfInBounds_toArray, List.set_cons_zero, List.set_cons_succ]
          refine any_take (i := 1) (some 41) (.slice (some ⟨bb, ob, none⟩) m.length c2) rfl rfl (by kernel_rfl) (by kernel_rfl) (by kernel_rfl) (fun _ _ _ h => h) rfl (fun W hSw => ?_) (S0) ?_
          · (try dsimp only at hSw); go_simp <;> with_reducible rfl
          try simp only [Act.put, List.setIfInBounds_toArray, List.set_cons_zero, List.set_cons_succ]
          refine any_take (i := 2) (some 42) (.int .i64 (m.length : Int)) rfl rfl (by kernel_rfl) (by kernel_rfl) (by kernel_rfl) (fun _ _ _ h => h) rfl (fun W hSw => ?_) (S0) ?_
          · (try dsimp only at hSw); go_simp <;> with_reducible rfl
          try simp only [Act.put, List.setIfInBounds_toArray, List.set_cons_zero, List.set_cons_succ]
          refine any_take (i := 3) (some 43) (.bool false) rfl rfl (by kernel_rfl) (by kernel_rfl) (by kernel_rfl) (fun _ _ _ h => h) rfl (fun W hSw => ?_) (S0) ?_
          · (try dsimp only at hSw); go_simp <;> with_reducible rfl
          try simp only [Act.put, List.setIfInBounds_toArray, List.set_cons_zero, List.set_cons_succ]
          refine any_take (i := 4) (some 44) (.bool false) rfl rfl (by kernel_rfl) (by kernel_rfl) (by kernel_rfl) (fun _ _ _ h => h) rfl (fun W hSw => ?_) (S0) ?_
          · (try dsimp only at hSw); go_simp <;> with_reducible rfl
          try simp only [Act.put, List.setIfInBounds_toArray, List.set_cons_zero, List.set_cons_succ]
          refine any_take (i := 5) (some 45) (.int .i64 (p : Int)) rfl rfl (by kernel_rfl) (by kernel_rfl) (by kernel_rfl) (fun _ _ _ h => h) rfl (fun W hSw => ?_) (S0) ?_
          · (try dsimp only at hSw); go_simp <;> with_reducible rfl
          try simp only [Act.put, List.setIfInBounds_toArray, List.set_cons_zero, List.set_cons_succ]
          refine any_take (i := 6) (some 46) (.slice (some ⟨ba, oa, none⟩) l.length c) rfl rfl (by kernel_rfl) (by kernel_rfl) (by kernel_rfl) (fun _ _ _ h => h) rfl (fun W hSw => ?_) (S0) ?_
          · (try dsimp only at hSw); go_simp <;> with_reducible rfl
          try simp only [Act.put, List.setIfInBounds_toArray, List.set_cons_zero, List.set_cons_succ]
          refine any_take (i := 7) (some 47) (.int .i64 (l.length : Int)) rfl rfl (by kernel_rfl) (by kernel_rfl) (by kernel_rfl) (fun _ _ _ h => h) rfl (fun W hSw => ?_) (S0) ?_
          · (try dsimp only at hSw); go_simp <;> with_reducible rfl
          try simp only [Act.put, List.setIfInBounds_toArray, List.set_cons_zero, List.set_cons_succ]
          refine any_take (i := 8) (some 48) (.bool true) rfl rfl (by kernel_rfl) (by kernel_rfl) (by kernel_rfl) (fun _ _ _ h => h) rfl (fun W hSw => ?_) (S0) ?_
          · (try dsimp only at hSw); go_simp <;> with_reducible rfl
          try simp only [Act.put, List.setIfInBounds_toArray, List.set_cons_zero, List.set_cons_succ]
          refine any_take (i := 9) (some 49) (.bool true) rfl rfl (by kernel_rfl) (by kernel_rfl) (by kernel_rfl) (fun _ _ _ h => h) rfl (fun W hSw => ?_) (S0) ?_
          · (try dsimp only at hSw); go_simp <;> with_reducible rfl
          try simp only [Act.put, List.setIfInBounds_toArray, List.set_cons_zero, List.set_cons_succ]
          refine any_take (i := 10) (some 50) (.slice (some ⟨ba, oa, none⟩) l.length c) rfl rfl (by kernel_rfl) (by kernel_rfl) (by kernel_rfl) (fun _ _ _ h => h) rfl (fun W hSw => ?_) (S0) ?_
          · (try dsimp only at hSw); go_simp <;> with_reducible rfl
          try simp only [Act.put, List.setIfInBounds_toArray, List.set_cons_zero, List.set_cons_succ]
          refine any_take (i := 11) (some 51) (.int .i64 (p : Int)) rfl rfl (by kernel_rfl) (by kernel_rfl) (by kernel_rfl) (fun _ _ _ h => h) rfl (fun W hSw => ?_) (S0) ?_
          · (try dsimp only at hSw); go_simp <;> with_reducible rfl
          try simp only [Act.put, List.setIfInBounds_toArray, List.set_cons_zero, List.set_cons_succ]
          refine any_take (i := 12) (some 52) (.pointer (some ⟨ba, oa + p * 7, none⟩)) rfl rfl (by kernel_rfl) (by kernel_rfl) (by kernel_rfl) (fun _ _ _ h => h) rfl (fun W hSw => ?_) (S0) ?_
          · (try dsimp only at hSw); go_simp <;> with_reducible rfl
          try simp only [Act.put, List.setIfInBounds_toArray, List.set_cons_zero, List.set_cons_succ]
          refine any_take (i := 13) (some 53) (.agg #[.int .i64 x0, .int .i64 x1, .int .i64 x2, .int .i64 x3, .int .i64 x4, .int .i64 x5, .int .i64 x6]) rfl rfl (by kernel_rfl) (by kernel_rfl) (by kernel_rfl) (fun _ _ _ h => h) rfl (fun W hSw => ?_) (S0) ?_
          · (try dsimp only at hSw); go_simp <;> with_reducible rfl
          try simp only [Act.put, List.setIfInBounds_toArray, List.set_cons_zero, List.set_cons_succ]
          refine any_take (i := 14) (some 54) (.slice (some ⟨bb, ob, none⟩) m.length c2) rfl rfl (by kernel_rfl) (by kernel_rfl) (by kernel_rfl) (fun _ _ _ h => h) rfl (fun W hSw => ?_) (S0) ?_
          · (try dsimp only at hSw); go_simp <;> with_reducible rfl
          try simp only [Act.put, List.setIfInBounds_toArray, List.set_cons_zero, List.set_cons_succ]
          refine any_take (i := 15) (some 55) (.int .i64 (q : Int)) rfl rfl (by kernel_rfl) (by kernel_rfl) (by kernel_rfl) (fun _ _ _ h => h) rfl (fun W hSw => ?_) (S0) ?_
          · (try dsimp only at hSw); go_simp <;> with_reducible rfl
          try simp only [Act.put, List.setIfInBounds_toArray, List.set_cons_zero, List.set_cons_succ]
          refine any_take (i := 16) (some 56) (.pointer (some ⟨bb, ob + q * 7, none⟩)) rfl rfl (by kernel_rfl) (by kernel_rfl) (by kernel_rfl) (fun _ _ _ h => h) rfl (fun W hSw => ?_) (S0) ?_
          · (try dsimp only at hSw); go_simp <;> with_reducible rfl
          try simp only [Act.put, List.setIfInBounds_toArray, List.set_cons_zero, List.set_cons_succ]
          refine any_take (i := 17) (some 57) (.agg #[.int .i64 y0, .int .i64 y1, .int .i64 y2, .int .i64 y3, .int .i64 y4, .int .i64 y5, .int .i64 y6]) rfl rfl (by kernel_rfl) (by kernel_rfl) (by kernel_rfl) (fun _ _ _ h => h) rfl (fun W hSw => ?_) (S0) ?_
          · (try dsimp only at hSw); go_simp <;> with_reducible rfl
          try simp only [Act.put, List.setIfInBounds_toArray, List.set_cons_zero, List.set_cons_succ]
          refine wpAnyH_ready (rs := [18]) (by kernel_rfl) (by simp) ?_
          refine AllReadyH.cons rfl (fun K hK => ?_) AllReadyH.nil
          go_simp
          go_at_call 17
          refine (befS_any _ x0 x1 x2 x3 x4 x5 x6 y0 y1 y2 y3 y4 y5 y6).mono ?_
          rintro e wa ⟨rfl, hb8⟩
          rw [H1.out]
          have hb9wa : Below wr.heap.size wr wa := bthen ((Below.refl _ _).drew : Below wr.heap.size wr wr.drew) hb8
          have Swa : (fun W : World => (W.cell? ⟨ba, oa + p * 7, none⟩ = some (.int .i64 x0) ∧ W.cell? ⟨ba, oa + p * 7 + 1, none⟩ = some (.int .i64 x1) ∧ W.cell? ⟨ba, oa + p * 7 + 2, none⟩ = some (.int .i64 x2) ∧ W.cell? ⟨ba, oa + p * 7 + 3, none⟩ = some (.int .i64 x3) ∧ W.cell? ⟨ba, oa + p * 7 + 4, none⟩ = some (.int .i64 x4) ∧ W.cell? ⟨ba, oa + p * 7 + 5, none⟩ = some (.int .i64 x5) ∧ W.cell? ⟨ba, oa + p * 7 + 6, none⟩ = some (.int .i64 x6) ∧ W.cell? ⟨bb, ob + q * 7, none⟩ = some (.int .i64 y0) ∧ W.cell? ⟨bb, ob + q * 7 + 1, none⟩ = some (.int .i64 y1) ∧ W.cell? ⟨bb, ob + q * 7 + 2, none⟩ = some (.int .i64 y2) ∧ W.cell? ⟨bb, ob + q * 7 + 3, none⟩ = some (.int .i64 y3) ∧ W.cell? ⟨bb, ob + q * 7 + 4, none⟩ = some (.int .i64 y4) ∧ W.cell? ⟨bb, ob + q * 7 + 5, none⟩ = some (.int .i64 y5) ∧ W.cell? ⟨bb, ob + q * 7 + 6, none⟩ = some (.int .i64 y6)) ∧ Below wr.heap.size wr W) wa := ⟨⟨(bold hb9wa _ _ (hba)).trans S0.1.1, (bold hb9wa _ _ (hba)).trans S0.1.2.1, (bold hb9wa _ _ (hba)).trans S0.1.2.2.1, (bold hb9wa _ _ (hba)).trans S0.1.2.2.2.1, (bold hb9wa _ _ (hba)).trans S0.1.2.2.2.2.1, (bold hb9wa _ _ (hba)).trans S0.1.2.2.2.2.2.1, (bold hb9wa _ _ (hba)).trans S0.1.2.2.2.2.2.2.1, (bold hb9wa _ _ (hbb)).trans S0.1.2.2.2.2.2.2.2.1, (bold hb9wa _ _ (hbb)).trans S0.1.2.2.2.2.2.2.2.2.1, (bold hb9wa _ _ (hbb)).trans S0.1.2.2.2.2.2.2.2.2.2.1, (bold hb9wa _ _ (hbb)).trans S0.1.2.2.2.2.2.2.2.2.2.2.1, (bold hb9wa _ _ (hbb)).trans S0.1.2.2.2.2.2.2.2.2.2.2.2.1, (bold hb9wa _ _ (hbb)).trans S0.1.2.2.2.2.2.2.2.2.2.2.2.2.1, (bold hb9wa _ _ (hbb)).trans S0.1.2.2.2.2.2.2.2.2.2.2.2.2.2⟩, hb9wa⟩
          clear hb8
          go_wp2_with fail
          refine hK.out _ _ Swa (fun _ => ?_)
          clear hK K
          try simp only [Act.put, List.setIfInBounds_toArray, List.set_cons_zero, List.set_cons_succ]
          refine any_take (i := 19) (some 59) (.bool false) rfl rfl (by kernel_rfl) (by kernel_rfl) (by kernel_rfl) (fun _ _ _ h => h) rfl (fun W hSw => ?_) (Swa) ?_
          · (try dsimp only at hSw); go_simp <;> with_reducible rfl
          try simp only [Act.put, List.setIfInBounds_toArray, List.set_cons_zero, List.set_cons_succ]
          refine any_take (i := 20) (some 60) (.bool false) rfl rfl (by kernel_rfl) (by kernel_rfl) (by kernel_rfl) (fun _ _ _ h => h) rfl (fun W hSw => ?_) (Swa) ?_
          · (try dsimp only at hSw); go_simp <;> with_reducible rfl
          try simp only [Act.put, List.setIfInBounds_toArray, List.set_cons_zero, List.set_cons_succ]
          refine any_take (i := 21) (some 39) (.bool false) rfl rfl (by kernel_rfl) (by kernel_rfl) (by kernel_rfl) (fun _ _ _ h => h) rfl (fun W hSw => ?_) (Swa) ?_
          · (try dsimp only at hSw); go_simp <;> with_reducible rfl
          try simp only [Act.put, List.setIfInBounds_toArray, List.set_cons_zero, List.set_cons_succ]
          refine wpAnyH_done (by kernel_rfl) ?_ _
          have hbreg : Below wr.heap.size wr wa := Swa.2
          clear S0 Swa hb9wa
          replace hc0 := (bold hbreg _ _ hba).trans hc0; replace hc1 := (bold hbreg _ _ hba).trans hc1; replace hc2 := (bold hbreg _ _ hba).trans hc2; replace hc3 := (bold hbreg _ _ hba).trans hc3; replace hc4 := (bold hbreg _ _ hba).trans hc4; replace hc5 := (bold hbreg _ _ hba).trans hc5; replace hc6 := (bold hbreg _ _ hba).trans hc6
          replace hd0 := (bold hbreg _ _ hbb).trans hd0; replace hd1 := (bold hbreg _ _ hbb).trans hd1; replace hd2 := (bold hbreg _ _ hbb).trans hd2; replace hd3 := (bold hbreg _ _ hbb).trans hd3; replace hd4 := (bold hbreg _ _ hbb).trans hd4; replace hd5 := (bold hbreg _ _ hbb).trans hd5; replace hd6 := (bold hbreg _ _ hbb).trans hd6
          have HO2 := Lib.hid (own_kept HO.out hbreg); have HB2 := Lib.hid (HB.out.trans (hbreg.mono hsz)); have hsn := HB2.out.size
          have hba2 : ba < wa.heap.size := by have := hbreg.size; omega
          have hbb2 : bb < wa.heap.size := by have := hbreg.size; omega
          clear hbreg
          go_wp2_with fail
          have S0 : (fun W : World => (W.cell? ⟨ba, oa + p * 7, none⟩ = some (.int .i64 x0) ∧ W.cell? ⟨ba, oa + p * 7 + 1, none⟩ = some (.int .i64 x1) ∧ W.cell? ⟨ba, oa + p * 7 + 2, none⟩ = some (.int .i64 x2) ∧ W.cell? ⟨ba, oa + p * 7 + 3, none⟩ = some (.int .i64 x3) ∧ W.cell? ⟨ba, oa + p * 7 + 4, none⟩ = some (.int .i64 x4) ∧ W.cell? ⟨ba, oa + p * 7 + 5, none⟩ = some (.int .i64 x5) ∧ W.cell? ⟨ba, oa + p * 7 + 6, none⟩ = some (.int .i64 x6) ∧ W.cell? ⟨bb, ob + q * 7, none⟩ = some (.int .i64 y0) ∧ W.cell? ⟨bb, ob + q * 7 + 1, none⟩ = some (.int .i64 y1) ∧ W.cell? ⟨bb, ob + q * 7 + 2, none⟩ = some (.int .i64 y2) ∧ W.cell? ⟨bb, ob + q * 7 + 3, none⟩ = some (.int .i64 y3) ∧ W.cell? ⟨bb, ob + q * 7 + 4, none⟩ = some (.int .i64 y4) ∧ W.cell? ⟨bb, ob + q * 7 + 5, none⟩ = some (.int .i64 y5) ∧ W.cell? ⟨bb, ob + q * 7 + 6, none⟩ = some (.int .i64 y6)) ∧ Below wa.heap.size wa W) wa.drew := ⟨⟨hc0, hc1, hc2, hc3, hc4, hc5, hc6, hd0, hd1, hd2, hd3, hd4, hd5, hd6⟩, (Below.refl _ _).drew⟩
          refine wp_region_held_drew (S := (fun W : World => (W.cell? ⟨ba, oa + p * 7, none⟩ = some (.int .i64 x0) ∧ W.cell? ⟨ba, oa + p * 7 + 1, none⟩ = some (.int .i64 x1) ∧ W.cell? ⟨ba, oa + p * 7 + 2, none⟩ = some (.int .i64 x2) ∧ W.cell? ⟨ba, oa + p * 7 + 3, none⟩ = some (.int .i64 x3) ∧ W.cell? ⟨ba, oa + p * 7 + 4, none⟩ = some (.int .i64 x4) ∧ W.cell? ⟨ba, oa + p * 7 + 5, none⟩ = some (.int .i64 x5) ∧ W.cell? ⟨ba, oa + p * 7 + 6, none⟩ = some (.int .i64 x6) ∧ W.cell? ⟨bb, ob + q * 7, none⟩ = some (.int .i64 y0) ∧ W.cell? ⟨bb, ob + q * 7 + 1, none⟩ = some (.int .i64 y1) ∧ W.cell? ⟨bb, ob + q * 7 + 2, none⟩ = some (.int .i64 y2) ∧ W.cell? ⟨bb, ob + q * 7 + 3, none⟩ = some (.int .i64 y3) ∧ W.cell? ⟨bb, ob + q * 7 + 4, none⟩ = some (.int .i64 y4) ∧ W.cell? ⟨bb, ob + q * 7 + 5, none⟩ = some (.int .i64 y5) ∧ W.cell? ⟨bb, ob + q * 7 + 6, none⟩ = some (.int .i64 y6)) ∧ Below wa.heap.size wa W)) (by kernel_rfl) S0 (fun _ => ?_)
          refine any_take (i := 0) (some 71) (.int .i64 (p : Int)) rfl rfl (by kernel_rfl) (by kernel_rfl) (by kernel_rfl) (fun _ _ _ h => h) rfl (fun W hSw => ?_) (S0) ?_
          · (try dsimp only at hSw); go_simp <;> with_reducible rfl
          try simp only [Act.put, List.setIfInBounds_toArray, List.set_cons_zero, List.set_cons_succ]
          refine any_take (i := 1) (some 72) (.slice (some ⟨ba, oa, none⟩) l.length c) rfl rfl (by kernel_rfl) (by kernel_rfl) (by kernel_rfl) (fun _ _ _ h => h) rfl (fun W hSw => ?_) (S0) ?_
          · (try dsimp only at hSw); go_simp <;> with_reducible rfl
          try simp only [Act.put, List.setIfInBounds_toArray, List.set_cons_zero, List.set_cons_succ]
          refine any_take (i := 2) (some 73) (.int .i64 (l.length : Int)) rfl rfl (by kernel_rfl) (by kernel_rfl) (by kernel_rfl) (fun _ _ _ h => h) rfl (fun W hSw => ?_) (S0) ?_
          · (try dsimp only at hSw); go_simp <;> with_reducible rfl
          try simp only [Act.put, List.setIfInBounds_toArray, List.set_cons_zero, List.set_cons_succ]
          refine any_take (i := 3) (some 74) (.bool false) rfl rfl (by kernel_rfl) (by kernel_rfl) (by kernel_rfl) (fun _ _ _ h => h) rfl (fun W hSw => ?_) (S0) ?_
          · (try dsimp only at hSw); go_simp <;> with_reducible rfl
          try simp only [Act.put, List.setIfInBounds_toArray, List.set_cons_zero, List.set_cons_succ]
          refine any_take (i := 4) (some 75) (.bool false) rfl rfl (by kernel_rfl) (by kernel_rfl) (by kernel_rfl) (fun _ _ _ h => h) rfl (fun W hSw => ?_) (S0) ?_
          · (try dsimp only at hSw); go_simp <;> with_reducible rfl
          try simp only [Act.put, List.setIfInBounds_toArray, List.set_cons_zero, List.set_cons_succ]
          refine any_take (i := 5) (some 76) (.slice (some ⟨bb, ob, none⟩) m.length c2) rfl rfl (by kernel_rfl) (by kernel_rfl) (by kernel_rfl) (fun _ _ _ h => h) rfl (fun W hSw => ?_) (S0) ?_
          · (try dsimp only at hSw); go_simp <;> with_reducible rfl
          try simp only [Act.put, List.setIfInBounds_toArray, List.set_cons_zero, List.set_cons_succ]
          refine any_take (i := 6) (some 77) (.int .i64 (q : Int)) rfl rfl (by kernel_rfl) (by kernel_rfl) (by kernel_rfl) (fun _ _ _ h => h) rfl (fun W hSw => ?_) (S0) ?_
          · (try dsimp only at hSw); go_simp <;> with_reducible rfl
          try simp only [Act.put, List.setIfInBounds_toArray, List.set_cons_zero, List.set_cons_succ]
          refine any_take (i := 7) (some 78) (.pointer (some ⟨bb, ob + q * 7, none⟩)) rfl rfl (by kernel_rfl) (by kernel_rfl) (by kernel_rfl) (fun _ _ _ h => h) rfl (fun W hSw => ?_) (S0) ?_
          · (try dsimp only at hSw); go_simp <;> with_reducible rfl
          try simp only [Act.put, List.setIfInBounds_toArray, List.set_cons_zero, List.set_cons_succ]
          refine any_take (i := 8) (some 79) (.agg #[.int .i64 y0, .int .i64 y1, .int .i64 y2, .int .i64 y3, .int .i64 y4, .int .i64 y5, .int .i64 y6]) rfl rfl (by kernel_rfl) (by kernel_rfl) (by kernel_rfl) (fun _ _ _ h => h) rfl (fun W hSw => ?_) (S0) ?_
          · (try dsimp only at hSw); go_simp <;> with_reducible rfl
          try simp only [Act.put, List.setIfInBounds_toArray, List.set_cons_zero, List.set_cons_succ]
          refine any_take (i := 9) (some 80) (.slice (some ⟨ba, oa, none⟩) l.length c) rfl rfl (by kernel_rfl) (by kernel_rfl) (by kernel_rfl) (fun _ _ _ h => h) rfl (fun W hSw => ?_) (S0) ?_
          · (try dsimp only at hSw); go_simp <;> with_reducible rfl
          try simp only [Act.put, List.setIfInBounds_toArray, List.set_cons_zero, List.set_cons_succ]
          refine any_take (i := 10) (some 81) (.int .i64 (p : Int)) rfl rfl (by kernel_rfl) (by kernel_rfl) (by kernel_rfl) (fun _ _ _ h => h) rfl (fun W hSw => ?_) (S0) ?_
          · (try dsimp only at hSw); go_simp <;> with_reducible rfl
          try simp only [Act.put, List.setIfInBounds_toArray, List.set_cons_zero, List.set_cons_succ]
          refine any_take (i := 11) (some 82) (.pointer (some ⟨ba, oa + p * 7, none⟩)) rfl rfl (by kernel_rfl) (by kernel_rfl) (by kernel_rfl) (fun _ _ _ h => h) rfl (fun W hSw => ?_) (S0) ?_
          · (try dsimp only at hSw); go_simp <;> with_reducible rfl
          try simp only [Act.put, List.setIfInBounds_toArray, List.set_cons_zero, List.set_cons_succ]
          refine any_take (i := 12) (some 83) (.agg #[.int .i64 x0, .int .i64 x1, .int .i64 x2, .int .i64 x3, .int .i64 x4, .int .i64 x5, .int .i64 x6]) rfl rfl (by kernel_rfl) (by kernel_rfl) (by kernel_rfl) (fun _ _ _ h => h) rfl (fun W hSw => ?_) (S0) ?_
          · (try dsimp only at hSw); go_simp <;> with_reducible rfl
          try simp only [Act.put, List.setIfInBounds_toArray, List.set_cons_zero, List.set_cons_succ]
          refine wpAnyH_ready (rs := [13]) (by kernel_rfl) (by simp) ?_
          refine AllReadyH.cons rfl (fun K hK => ?_) AllReadyH.nil
          go_simp
          go_at_call 17
          refine (befS_any _ y0 y1 y2 y3 y4 y5 y6 x0 x1 x2 x3 x4 x5 x6).mono ?_
          rintro e wb ⟨rfl, hb8⟩
          rw [H2.out]
          have hb9wb : Below wa.heap.size wa wb := bthen ((Below.refl _ _).drew : Below wa.heap.size wa wa.drew) hb8
          have Swb : (fun W : World => (W.cell? ⟨ba, oa + p * 7, none⟩ = some (.int .i64 x0) ∧ W.cell? ⟨ba, oa + p * 7 + 1, none⟩ = some (.int .i64 x1) ∧ W.cell? ⟨ba, oa + p * 7 + 2, none⟩ = some (.int .i64 x2) ∧ W.cell? ⟨ba, oa + p * 7 + 3, none⟩ = some (.int .i64 x3) ∧ W.cell? ⟨ba, oa + p * 7 + 4, none⟩ = some (.int .i64 x4) ∧ W.cell? ⟨ba, oa + p * 7 + 5, none⟩ = some (.int .i64 x5) ∧ W.cell? ⟨ba, oa + p * 7 + 6, none⟩ = some (.int .i64 x6) ∧ W.cell? ⟨bb, ob + q * 7, none⟩ = some (.int .i64 y0) ∧ W.cell? ⟨bb, ob + q * 7 + 1, none⟩ = some (.int .i64 y1) ∧ W.cell? ⟨bb, ob + q * 7 + 2, none⟩ = some (.int .i64 y2) ∧ W.cell? ⟨bb, ob + q * 7 + 3, none⟩ = some (.int .i64 y3) ∧ W.cell? ⟨bb, ob + q * 7 + 4, none⟩ = some (.int .i64 y4) ∧ W.cell? ⟨bb, ob + q * 7 + 5, none⟩ = some (.int .i64 y5) ∧ W.cell? ⟨bb, ob + q * 7 + 6, none⟩ = some (.int .i64 y6)) ∧ Below wa.heap.size wa W) wb := ⟨⟨(bold hb9wb _ _ (hba2)).trans S0.1.1, (bold hb9wb _ _ (hba2)).trans S0.1.2.1, (bold hb9wb _ _ (hba2)).trans S0.1.2.2.1, (bold hb9wb _ _ (hba2)).trans S0.1.2.2.2.1, (bold hb9wb _ _ (hba2)).trans S0.1.2.2.2.2.1, (bold hb9wb _ _ (hba2)).trans S0.1.2.2.2.2.2.1, (bold hb9wb _ _ (hba2)).trans S0.1.2.2.2.2.2.2.1, (bold hb9wb _ _ (hbb2)).trans S0.1.2.2.2.2.2.2.2.1, (bold hb9wb _ _ (hbb2)).trans S0.1.2.2.2.2.2.2.2.2.1, (bold hb9wb _ _ (hbb2)).trans S0.1.2.2.2.2.2.2.2.2.2.1, (bold hb9wb _ _ (hbb2)).trans S0.1.2.2.2.2.2.2.2.2.2.2.1, (bold hb9wb _ _ (hbb2)).trans S0.1.2.2.2.2.2.2.2.2.2.2.2.1, (bold hb9wb _ _ (hbb2)).trans S0.1.2.2.2.2.2.2.2.2.2.2.2.2.1, (bold hb9wb _ _ (hbb2)).trans S0.1.2.2.2.2.2.2.2.2.2.2.2.2.2⟩, hb9wb⟩
          clear hb8
          go_wp2_with fail
          refine hK.out _ _ Swb (fun _ => ?_)
          clear hK K
          try simp only [Act.put, List.setIfInBounds_toArray, List.set_cons_zero, List.set_cons_succ]
          refine any_take (i := 14) (some 85) (.bool true) rfl rfl (by kernel_rfl) (by kernel_rfl) (by kernel_rfl) (fun _ _ _ h => h) rfl (fun W hSw => ?_) (Swb) ?_
          · (try dsimp only at hSw); go_simp <;> with_reducible rfl
          try simp only [Act.put, List.setIfInBounds_toArray, List.set_cons_zero, List.set_cons_succ]
          refine any_take (i := 15) (some 70) (.bool true) rfl rfl (by kernel_rfl) (by kernel_rfl) (by kernel_rfl) (fun _ _ _ h => h) rfl (fun W hSw => ?_) (Swb) ?_
          · (try dsimp only at hSw); go_simp <;> with_reducible rfl
          try simp only [Act.put, List.setIfInBounds_toArray, List.set_cons_zero, List.set_cons_succ]
          refine wpAnyH_done (by kernel_rfl) ?_ _
          have hbreg : Below wa.heap.size wa wb := Swb.2
          clear S0 Swb hb9wb
          replace hc0 := (bold hbreg _ _ hba2).trans hc0; replace hc1 := (bold hbreg _ _ hba2).trans hc1; replace hc2 := (bold hbreg _ _ hba2).trans hc2; replace hc3 := (bold hbreg _ _ hba2).trans hc3; replace hc4 := (bold hbreg _ _ hba2).trans hc4; replace hc5 := (bold hbreg _ _ hba2).trans hc5; replace hc6 := (bold hbreg _ _ hba2).trans hc6
          replace hd0 := (bold hbreg _ _ hbb2).trans hd0; replace hd1 := (bold hbreg _ _ hbb2).trans hd1; replace hd2 := (bold hbreg _ _ hbb2).trans hd2; replace hd3 := (bold hbreg _ _ hbb2).trans hd3; replace hd4 := (bold hbreg _ _ hbb2).trans hd4; replace hd5 := (bold hbreg _ _ hbb2).trans hd5; replace hd6 := (bold hbreg _ _ hbb2).trans hd6
          have HO3 := Lib.hid (own_kept HO2.out hbreg); have HB3 := Lib.hid (HB2.out.trans (hbreg.mono hsn)); have hsn3 := HB3.out.size
          have hba3 : ba < wb.heap.size := by have := hbreg.size; omega
          have hbb3 : bb < wb.heap.size := by have := hbreg.size; omega
          clear hbreg hqe hpe hpd
          go_wp2_with (at_builtin; go_must (refine list_app rfl _ _ 24 rfl w.heap.size 40 i0 (.agg #[.int .i64 0, .int .i64 0, .int .i64 0, .int .i64 0, .int .i64 0, .int .i64 0, .int .i64 0]) 7 56 Tryd.underlying24 I0.out Z0.out Z1.out Z2.out rfl (by decide) _ pre.length (evV pre) rfl (HO3.out.alloc _) _ 1 1 #[.int .i64 y0, .int .i64 y1, .int .i64 y2, .int .i64 y3, .int .i64 y4, .int .i64 y5, .int .i64 y6].toList rfl (src_box _ _ #[.int .i64 y0, .int .i64 y1, .int .i64 y2, .int .i64 y3, .int .i64 y4, .int .i64 y5, .int .i64 y6] 7 rfl (by simp [Value.oneCell'])) (by unfold maxLen; omega) (by omega) (by simp; omega) ?_))
          intro A3 c3 w8 hown8 hgrow8 _
          have hb8 : Below w.heap.size w w8 := (HB3.out.alloc hsn3 _).grown hgrow8 (by simp; omega) (fun k hk => (HO3.out.lt k hk).1)
          have HO8 := Lib.hid hown8; have HB8 := Lib.hid hb8; clear hown8 hgrow8 hb8
          go_wp2_with fail
          go_roundw
          case rel => exact ⟨p, q + 1, pre ++ [⟨y0, y1, y2, y3, y4, y5, y6⟩], by omega, by omega, by go_num, by go_num, mrgAt_y HAT.out HX.out HY.out H1.out H2.out, by rw [List.length_append, evV_app, evV_one]; exact HO8.out, HB8.out⟩
          case measure => simp [intOf]; omega
      · skip
        have H1 := Lib.hid h1; clear h1
        go_wp2_with fail
        have S0 : (fun W : World => (W.cell? ⟨ba, oa + p * 7, none⟩ = some (.int .i64 x0) ∧ W.cell? ⟨ba, oa + p * 7 + 1, none⟩ = some (.int .i64 x1) ∧ W.cell? ⟨ba, oa + p * 7 + 2, none⟩ = some (.int .i64 x2) ∧ W.cell? ⟨ba, oa + p * 7 + 3, none⟩ = some (.int .i64 x3) ∧ W.cell? ⟨ba, oa + p * 7 + 4, none⟩ = some (.int .i64 x4) ∧ W.cell? ⟨ba, oa + p * 7 + 5, none⟩ = some (.int .i64 x5) ∧ W.cell? ⟨ba, oa + p * 7 + 6, none⟩ = some (.int .i64 x6) ∧ W.cell? ⟨bb, ob + q * 7, none⟩ = some (.int .i64 y0) ∧ W.cell? ⟨bb, ob + q * 7 + 1, none⟩ = some (.int .i64 y1) ∧ W.cell? ⟨bb, ob + q * 7 + 2, none⟩ = some (.int .i64 y2) ∧ W.cell? ⟨bb, ob + q * 7 + 3, none⟩ = some (.int .i64 y3) ∧ W.cell? ⟨bb, ob + q * 7 + 4, none⟩ = some (.int .i64 y4) ∧ W.cell? ⟨bb, ob + q * 7 + 5, none⟩ = some (.int .i64 y5) ∧ W.cell? ⟨bb, ob + q * 7 + 6, none⟩ = some (.int .i64 y6)) ∧ Below wr.heap.size wr W) wr.drew := ⟨⟨hc0, hc1, hc2, hc3, hc4, hc5, hc6, hd0, hd1, hd2, hd3, hd4, hd5, hd6⟩, (Below.refl _ _).drew⟩
        refine wp_region_held_drew (S := (fun W : World => (W.cell? ⟨ba, oa + p * 7, none⟩ = some (.int .i64 x0) ∧ W.cell? ⟨ba, oa + p * 7 + 1, none⟩ = some (.int .i64 x1) ∧ W.cell? ⟨ba, oa + p * 7 + 2, none⟩ = some (.int .i64 x2) ∧ W.cell? ⟨ba, oa + p * 7 + 3, none⟩ = some (.int .i64 x3) ∧ W.cell? ⟨ba, oa + p * 7 + 4, none⟩ = some (.int .i64 x4) ∧ W.cell? ⟨ba, oa + p * 7 + 5, none⟩ = some (.int .i64 x5) ∧ W.cell? ⟨ba, oa + p * 7 + 6, none⟩ = some (.int .i64 x6) ∧ W.cell? ⟨bb, ob + q * 7, none⟩ = some (.int .i64 y0) ∧ W.cell? ⟨bb, ob + q * 7 + 1, none⟩ = some (.int .i64 y1) ∧ W.cell? ⟨bb, ob + q * 7 + 2, none⟩ = some (.int .i64 y2) ∧ W.cell? ⟨bb, ob + q * 7 + 3, none⟩ = some (.int .i64 y3) ∧ W.cell? ⟨bb, ob + q * 7 + 4, none⟩ = some (.int .i64 y4) ∧ W.cell? ⟨bb, ob + q * 7 + 5, none⟩ = some (.int .i64 y5) ∧ W.cell? ⟨bb, ob + q * 7 + 6, none⟩ = some (.int .i64 y6)) ∧ Below wr.heap.size wr W)) (by kernel_rfl) S0 (fun _ => ?_)
        refine any_take (i := 0) (some 40) (.int .i64 (q : Int)) rfl rfl (by kernel_rfl) (by kernel_rfl) (by kernel_rfl) (fun _ _ _ h => h) rfl (fun W hSw => ?_) (S0) ?_
        · (try dsimp only at hSw); go_simp <;> with_reducible rfl
        try simp only [Act.put, List.setIfInBounds_toArray, List.set_cons_zero, List.set_cons_succ]
        refine any_take (i := 1) (some 41) (.slice (some ⟨bb, ob, none⟩) m.length c2) rfl rfl (by kernel_rfl) (by kernel_rfl) (by kernel_rfl) (fun _ _ _ h => h) rfl (fun W hSw => ?_) (S0) ?_
        · (try dsimp only at hSw); go_simp <;> with_reducible rfl
        try simp only [Act.put, List.setIfInBounds_toArray, List.set_cons_zero, List.set_cons_succ]
        refine any_take (i := 2) (some 42) (.int .i64 (m.length : Int)) rfl rfl (by kernel_rfl) (by kernel_rfl) (by kernel_rfl) (fun _ _ _ h => h) rfl (fun W hSw => ?_) (S0) ?_
        · (try dsimp only at hSw); go_simp <;> with_reducible rfl
        try simp only [Act.put, List.setIfInBounds_toArray, List.set_cons_zero, List.set_cons_succ]
        refine any_take (i := 3) (some 43) (.bool false) rfl rfl (by kernel_rfl) (by kernel_rfl) (by kernel_rfl) (fun _ _ _ h => h) rfl (fun W hSw => ?_) (S0) ?_
        · (try dsimp only at hSw); go_simp <;> with_reducible rfl
        try simp only [Act.put, List.setIfInBounds_toArray, List.set_cons_zero, List.set_cons_succ]
        refine any_take (i := 4) (some 44) (.bool false) rfl rfl (by kernel_rfl) (by kernel_rfl) (by kernel_rfl) (fun _ _ _ h => h) rfl (fun W hSw => ?_) (S0) ?_
        · (try dsimp only at hSw); go_simp <;> with_reducible rfl
        try simp only [Act.put, List.setIfInBounds_toArray, List.set_cons_zero, List.set_cons_succ]
        refine any_take (i := 5) (some 45) (.int .i64 (p : Int)) rfl rfl (by kernel_rfl) (by kernel_rfl) (by kernel_rfl) (fun _ _ _ h => h) rfl (fun W hSw => ?_) (S0) ?_
        · (try dsimp only at hSw); go_simp <;> with_reducible rfl
        try simp only [Act.put, List.setIfInBounds_toArray, List.set_cons_zero, List.set_cons_succ]
        refine any_take (i := 6) (some 46) (.slice (some ⟨ba, oa, none⟩) l.length c) rfl rfl (by kernel_rfl) (by kernel_rfl) (by kernel_rfl) (fun _ _ _ h => h) rfl (fun W hSw => ?_) (S0) ?_
        · (try dsimp only at hSw); go_simp <;> with_reducible rfl
        try simp only [Act.put, List.setIfInBounds_toArray, List.set_cons_zero, List.set_cons_succ]
        refine any_take (i := 7) (some 47) (.int .i64 (l.length : Int)) rfl rfl (by kernel_rfl) (by kernel_rfl) (by kernel_rfl) (fun _ _ _ h => h) rfl (fun W hSw => ?_) (S0) ?_
        · (try dsimp only at hSw); go_simp <;> with_reducible rfl
        try simp only [Act.put, List.setIfInBounds_toArray, List.set_cons_zero, List.set_cons_succ]
        refine any_take (i := 8) (some 48) (.bool true) rfl rfl (by kernel_rfl) (by kernel_rfl) (by kernel_rfl) (fun _ _ _ h => h) rfl (fun W hSw => ?_) (S0) ?_
        · (try dsimp only at hSw); go_simp <;> with_reducible rfl
        try simp only [Act.put, List.setIfInBounds_toArray, List.set_cons_zero, List.set_cons_succ]
        refine any_take (i := 9) (some 49) (.bool true) rfl rfl (by kernel_rfl) (by kernel_rfl) (by kernel_rfl) (fun _ _ _ h => h) rfl (fun W hSw => ?_) (S0) ?_
        · (try dsimp only at hSw); go_simp <;> with_reducible rfl
        try simp only [Act.put, List.setIfInBounds_toArray, List.set_cons_zero, List.set_cons_succ]
        refine any_take (i := 10) (some 50) (.slice (some ⟨ba, oa, none⟩) l.length c) rfl rfl (by kernel_rfl) (by kernel_rfl) (by kernel_rfl) (fun _ _ _ h => h) rfl (fun W hSw => ?_) (S0) ?_
        · (try dsimp only at hSw); go_simp <;> with_reducible rfl
        try simp only [Act.put, List.setIfInBounds_toArray, List.set_cons_zero, List.set_cons_succ]
        refine any_take (i := 11) (some 51) (.int .i64 (p : Int)) rfl rfl (by kernel_rfl) (by kernel_rfl) (by kernel_rfl) (fun _ _ _ h => h) rfl (fun W hSw => ?_) (S0) ?_
        · (try dsimp only at hSw); go_simp <;> with_reducible rfl
        try simp only [Act.put, List.setIfInBounds_toArray, List.set_cons_zero, List.set_cons_succ]
        refine any_take (i := 12) (some 52) (.pointer (some ⟨ba, oa + p * 7, none⟩)) rfl rfl (by kernel_rfl) (by kernel_rfl) (by kernel_rfl) (fun _ _ _ h => h) rfl (fun W hSw => ?_) (S0) ?_
        · (try dsimp only at hSw); go_simp <;> with_reducible rfl
        try simp only [Act.put, List.setIfInBounds_toArray, List.set_cons_zero, List.set_cons_succ]
        refine any_take (i := 13) (some 53) (.agg #[.int .i64 x0, .int .i64 x1, .int .i64 x2, .int .i64 x3, .int .i64 x4, .int .i64 x5, .int .i64 x6]) rfl rfl (by kernel_rfl) (by kernel_rfl) (by kernel_rfl) (fun _ _ _ h => h) rfl (fun W hSw => ?_) (S0) ?_
        · (try dsimp only at hSw); go_simp <;> with_reducible rfl
        try simp only [Act.put, List.setIfInBounds_toArray, List.set_cons_zero, List.set_cons_succ]
        refine any_take (i := 14) (some 54) (.slice (some ⟨bb, ob, none⟩) m.length c2) rfl rfl (by kernel_rfl) (by kernel_rfl) (by kernel_rfl) (fun _ _ _ h => h) rfl (fun W hSw => ?_) (S0) ?_
        · (try dsimp only at hSw); go_simp <;> with_reducible rfl
        try simp only [Act.put, List.setIfInBounds_toArray, List.set_cons_zero, List.set_cons_succ]
        refine any_take (i := 15) (some 55) (.int .i64 (q : Int)) rfl rfl (by kernel_rfl) (by kernel_rfl) (by kernel_rfl) (fun _ _ _ h => h) rfl (fun W hSw => ?_) (S0) ?_
        · (try dsimp only at hSw); go_simp <;> with_reducible rfl
        try simp only [Act.put, List.setIfInBounds_toArray, List.set_cons_zero, List.set_cons_succ]
        refine any_take (i := 16) (some 56) (.pointer (some ⟨bb, ob + q * 7, none⟩)) rfl rfl (by kernel_rfl) (by kernel_rfl) (by kernel_rfl) (fun _ _ _ h => h) rfl (fun W hSw => ?_) (S0) ?_
        · (try dsimp only at hSw); go_simp <;> with_reducible rfl
        try simp only [Act.put, List.setIfInBounds_toArray, List.set_cons_zero, List.set_cons_succ]
        refine any_take (i := 17) (some 57) (.agg #[.int .i64 y0, .int .i64 y1, .int .i64 y2, .int .i64 y3, .int .i64 y4, .int .i64 y5, .int .i64 y6]) rfl rfl (by kernel_rfl) (by kernel_rfl) (by kernel_rfl) (fun _ _ _ h => h) rfl (fun W hSw => ?_) (S0) ?_
        · (try dsimp only at hSw); go_simp <;> with_reducible rfl
        try simp only [Act.put, List.setIfInBounds_toArray, List.set_cons_zero, List.set_cons_succ]
        refine wpAnyH_ready (rs := [18]) (by kernel_rfl) (by simp) ?_
        refine AllReadyH.cons rfl (fun K hK => ?_) AllReadyH.nil
        go_simp
        go_at_call 17
        refine (befS_any _ x0 x1 x2 x3 x4 x5 x6 y0 y1 y2 y3 y4 y5 y6).mono ?_
        rintro e wa ⟨rfl, hb8⟩
        rw [H1.out]
        have hb9wa : Below wr.heap.size wr wa := bthen ((Below.refl _ _).drew : Below wr.heap.size wr wr.drew) hb8
        have Swa : (fun W : World => (W.cell? ⟨ba, oa + p * 7, none⟩ = some (.int .i64 x0) ∧ W.cell? ⟨ba, oa + p * 7 + 1, none⟩ = some (.int .i64 x1) ∧ W.cell? ⟨ba, oa + p * 7 + 2, none⟩ = some (.int .i64 x2) ∧ W.cell? ⟨ba, oa + p * 7 + 3, none⟩ = some (.int .i64 x3) ∧ W.cell? ⟨ba, oa + p * 7 + 4, none⟩ = some (.int .i64 x4) ∧ W.cell? ⟨ba, oa + p * 7 + 5, none⟩ = some (.int .i64 x5) ∧ W.cell? ⟨ba, oa + p * 7 + 6, none⟩ = some (.int .i64 x6) ∧ W.cell? ⟨bb, ob + q * 7, none⟩ = some (.int .i64 y0) ∧ W.cell? ⟨bb, ob + q * 7 + 1, none⟩ = some (.int .i64 y1) ∧ W.cell? ⟨bb, ob + q * 7 + 2, none⟩ = some (.int .i64 y2) ∧ W.cell? ⟨bb, ob + q * 7 + 3, none⟩ = some (.int .i64 y3) ∧ W.cell? ⟨bb, ob + q * 7 + 4, none⟩ = some (.int .i64 y4) ∧ W.cell? ⟨bb, ob + q * 7 + 5, none⟩ = some (.int .i64 y5) ∧ W.cell? ⟨bb, ob + q * 7 + 6, none⟩ = some (.int .i64 y6)) ∧ Below wr.heap.size wr W) wa := ⟨⟨(bold hb9wa _ _ (hba)).trans S0.1.1, (bold hb9wa _ _ (hba)).trans S0.1.2.1, (bold hb9wa _ _ (hba)).trans S0.1.2.2.1, (bold hb9wa _ _ (hba)).trans S0.1.2.2.2.1, (bold hb9wa _ _ (hba)).trans S0.1.2.2.2.2.1, (bold hb9wa _ _ (hba)).trans S0.1.2.2.2.2.2.1, (bold hb9wa _ _ (hba)).trans S0.1.2.2.2.2.2.2.1, (bold hb9wa _ _ (hbb)).trans S0.1.2.2.2.2.2.2.2.1, (bold hb9wa _ _ (hbb)).trans S0.1.2.2.2.2.2.2.2.2.1, (bold hb9wa _ _ (hbb)).trans S0.1.2.2.2.2.2.2.2.2.2.1, (bold hb9wa _ _ (hbb)).trans S0.1.2.2.2.2.2.2.2.2.2.2.1, (bold hb9wa _ _ (hbb)).trans S0.1.2.2.2.2.2.2.2.2.2.2.2.1, (bold hb9wa _ _ (hbb)).trans S0.1.2.2.2.2.2.2.2.2.2.2.2.2.1, (bold hb9wa _ _ (hbb)).trans S0.1.2.2.2.2.2.2.2.2.2.2.2.2.2⟩, hb9wa⟩
        clear hb8
        go_wp2_with fail
        refine hK.out _ _ Swa (fun _ => ?_)
        clear hK K
        try simp only [Act.put, List.setIfInBounds_toArray, List.set_cons_zero, List.set_cons_succ]
        refine any_take (i := 19) (some 59) (.bool true) rfl rfl (by kernel_rfl) (by kernel_rfl) (by kernel_rfl) (fun _ _ _ h => h) rfl (fun W hSw => ?_) (Swa) ?_
        · (try dsimp only at hSw); go_simp <;> with_reducible rfl
        try simp only [Act.put, List.setIfInBounds_toArray, List.set_cons_zero, List.set_cons_succ]
        refine any_take (i := 20) (some 60) (.bool true) rfl rfl (by kernel_rfl) (by kernel_rfl) (by kernel_rfl) (fun _ _ _ h => h) rfl (fun W hSw => ?_) (Swa) ?_
        · (try dsimp only at hSw); go_simp <;> with_reducible rfl
        try simp only [Act.put, List.setIfInBounds_toArray, List.set_cons_zero, List.set_cons_succ]
        refine any_take (i := 21) (some 39) (.bool true) rfl rfl (by kernel_rfl) (by kernel_rfl) (by kernel_rfl) (fun _ _ _ h => h) rfl (fun W hSw => ?_) (Swa) ?_
        · (try dsimp only at hSw); go_simp <;> with_reducible rfl
        try simp only [Act.put, List.setIfInBounds_toArray, List.set_cons_zero, List.set_cons_succ]
        refine wpAnyH_done (by kernel_rfl) ?_ _
        have hbreg : Below wr.heap.size wr wa := Swa.2
        clear S0 Swa hb9wa
        replace hc0 := (bold hbreg _ _ hba).trans hc0; replace hc1 := (bold hbreg _ _ hba).trans hc1; replace hc2 := (bold hbreg _ _ hba).trans hc2; replace hc3 := (bold hbreg _ _ hba).trans hc3; replace hc4 := (bold hbreg _ _ hba).trans hc4; replace hc5 := (bold hbreg _ _ hba).trans hc5; replace hc6 := (bold hbreg _ _ hba).trans hc6
        replace hd0 := (bold hbreg _ _ hbb).trans hd0; replace hd1 := (bold hbreg _ _ hbb).trans hd1; replace hd2 := (bold hbreg _ _ hbb).trans hd2; replace hd3 := (bold hbreg _ _ hbb).trans hd3; replace hd4 := (bold hbreg _ _ hbb).trans hd4; replace hd5 := (bold hbreg _ _ hbb).trans hd5; replace hd6 := (bold hbreg _ _ hbb).trans hd6
        have HO2 := Lib.hid (own_kept HO.out hbreg); have HB2 := Lib.hid (HB.out.trans (hbreg.mono hsz)); have hsn := HB2.out.size
        have hba2 : ba < wa.heap.size := by have := hbreg.size; omega
        have hbb2 : bb < wa.heap.size := by have := hbreg.size; omega
        clear hbreg
        clear hqe hpe hpd
        go_wp2_with (at_builtin; go_must (refine list_app rfl _ _ 24 rfl w.heap.size 40 i0 (.agg #[.int .i64 0, .int .i64 0, .int .i64 0, .int .i64 0, .int .i64 0, .int .i64 0, .int .i64 0]) 7 56 Tryd.underlying24 I0.out Z0.out Z1.out Z2.out rfl (by decide) _ pre.length (evV pre) rfl (HO2.out.alloc _) _ 1 1 #[.int .i64 x0, .int .i64 x1, .int .i64 x2, .int .i64 x3, .int .i64 x4, .int .i64 x5, .int .i64 x6].toList rfl (src_box _ _ #[.int .i64 x0, .int .i64 x1, .int .i64 x2, .int .i64 x3, .int .i64 x4, .int .i64 x5, .int .i64 x6] 7 rfl (by simp [Value.oneCell'])) (by unfold maxLen; omega) (by omega) (by simp; omega) ?_))
        intro A3 c3 w8 hown8 hgrow8 _
        have hb8 : Below w.heap.size w w8 := (HB2.out.alloc hsn _).grown hgrow8 (by simp; omega) (fun k hk => (HO2.out.lt k hk).1)
        have HO8 := Lib.hid hown8; have HB8 := Lib.hid hb8; clear hown8 hgrow8 hb8
        go_wp2_with fail
        go_roundw
        case rel => exact ⟨p + 1, q, pre ++ [⟨x0, x1, x2, x3, x4, x5, x6⟩], by omega, by omega, by go_num, by go_num, mrgAt_x HAT.out HX.out HY.out H1.out, by rw [List.length_append, evV_app, evV_one]; exact HO8.out, HB8.out⟩
        case measure => simp [intOf]; omega
theorem mergeS_any (w : World) (B B2 : Nat) (A A2 : Option Addr) (c c2 : Nat) (l m : List Ev) (hl : l.length ≤ 1048576) (hm : m.length ≤ 1048576) (hB : B ≤ w.heap.size) (hB2 : B2 ≤ w.heap.size) (hS : evL w B A l) (hS2 : evL w B2 A2 m) : Calls Tryd.prog 6 #[.slice A l.length c, .slice A2 m.length c2] w (AnsE2 (mergeE l m) w) := by
  cases hq : jrnB l
  · exact mergeS_bad1 w B B2 A A2 c c2 l m hl hm hB hB2 hS hS2 hq
  cases hq2 : jrnB m
  · exact mergeS_bad2 w B B2 A A2 c c2 l m hl hm hB hB2 hS hS2 hq hq2
  · exact mergeS_good w B B2 A A2 c c2 l m hl hm hB hB2 hS hS2 hq hq2
end Go.Proofs.YtdcejkompdbliaaDoor
