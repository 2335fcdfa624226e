/- Chapter 8: AddEvent of the program (gen_evap.py). -/
import Derived.Test.YtchphcchpdekoaaEvIn
import Derived.Test.YtchphcchpdekoaaAny
namespace Go.Proofs.Ytchphcchpdekoaa
open Go.RowKit
set_option linter.unusedVariables false
set_option maxRecDepth 100000 in
set_option maxHeartbeats 2000000 in
theorem addP_bad (w : World) (B : Nat) (A : Option Addr) (c : Nat) (l : List Ev) (nd kd pa a b9 : Int) (hl : l.length ≤ 1048576) (hB : B ≤ w.heap.size) (hS : evL w B A l) (hq : jrnB l = false) : Calls Try.prog 17 #[.slice A l.length c, .int .i64 nd, .int .i64 kd, .int .i64 pa, .int .i64 a, .int .i64 b9] w (AnsE2 (addE l nd kd pa a b9) w) := by
  have hlm : l.length ≤ maxLen := by unfold maxLen; omega
  have HLM := Lib.hid hlm; unfold maxLen at hlm
  have HS := Lib.hid hS; have HQ := Lib.hid hq; clear hS hq
  go_enter Try.func17, Try.ntmps17
  go_wp2_with (first | (go_at_call 14; refine (jrnI_any _ B A c l HLM.out hB HS.out).mono ?_; rintro e w1 ⟨rfl, hb1⟩; rw [HQ.out]) | (go_at_call 34; refine (cloneEvent_any _ B A c l hl (by have := hb1.size; omega) (HS.out.later hB hb1)).mono ?_; rintro e w2 ⟨A1, c1, rfl, hown, hb2⟩))
  have hcap := own_cap8 hown
  obtain ⟨A9, c9, hv9, hor⟩ := or_own hown
  injection hv9 with hv9; subst hv9
  go_ret2
  rw [addE_bad HQ.out]
  exact ⟨A1, c1, hcap, rfl, (hor.more hb1.size), bthen hb1 hb2⟩
set_option maxRecDepth 100000 in
set_option maxHeartbeats 8000000 in
theorem addP_no (w : World) (B : Nat) (A : Option Addr) (c : Nat) (l : List Ev) (nd kd pa a b9 : Int) (hl : l.length ≤ 1048576) (hB : B ≤ w.heap.size) (hS : evL w B A l) (hq : jrnB l = true) (hq2 : jrnB (insEv l nd kd pa a b9) = false) : Calls Try.prog 17 #[.slice A l.length c, .int .i64 nd, .int .i64 kd, .int .i64 pa, .int .i64 a, .int .i64 b9] w (AnsE2 (addE l nd kd pa a b9) w) := by
  have h60 := jrn_len hq; have sin := seqK_in hq nd l.length; have tin := stmK_in hq l.length
  have hlm : l.length ≤ maxLen := by unfold maxLen; omega
  have HLM := Lib.hid hlm; unfold maxLen at hlm
  have HS := Lib.hid hS; have HQ := Lib.hid hq; clear hS hq
  have HQ2 := Lib.hid hq2; clear hq2
  obtain ⟨s, hs⟩ : ∃ s, seqK l nd l.length = s := ⟨_, rfl⟩; obtain ⟨t, ht⟩ : ∃ t, stmK l l.length = t := ⟨_, rfl⟩; obtain ⟨at9, hat⟩ : ∃ n, atK l nd l.length = n := ⟨_, rfl⟩
  rw [hs] at sin; rw [ht] at tin
  have hal := atK_le l nd l.length; rw [hat] at hal
  obtain ⟨RR, hRR⟩ : ∃ R, insEv l nd kd pa a b9 = R := ⟨_, rfl⟩
  have hRe : l.take at9 ++ ⟨nd, s + 1, t + 1, kd, pa, a, b9⟩ :: l.drop at9 = RR := by rw [← hRR]; unfold insEv newEv; rw [hs, ht, hat]
  have hRl : RR.length = l.length + 1 := by rw [← hRR]; exact insEv_len l nd kd pa a b9
  have hR61 : RR.length ≤ 61 := by omega
  have HSK := Lib.hid hs; have HTK := Lib.hid ht; have HAT := Lib.hid hat; have HRR := Lib.hid hRR; have HRE := Lib.hid hRe; clear hs ht hat hRR hRe hRl
  have hv := HQ2.out; rw [HRR.out] at hv; have HV := Lib.hid hv; clear hv
  have hw1 : IntKind.i64.wrap (s + 1) = s + 1 := by rw [IntKind.wrap_i64]; omega
  have hw2 : IntKind.i64.wrap (t + 1) = t + 1 := by rw [IntKind.wrap_i64]; omega
  go_enter Try.func17, Try.ntmps17
  go_wp2_with (first | (go_at_call 14; refine (jrnI_any _ B A c l HLM.out hB HS.out).mono ?_; rintro e w1 ⟨rfl, hb1⟩; rw [HQ.out]) | (go_at_call 35; refine (gSeq_any _ B A c l nd hl (by have := hb1.size; omega) (HS.out.later hB hb1) HQ.out).mono ?_; rintro e w2 ⟨rfl, hb2⟩; rw [HSK.out]) | (go_at_call 36; refine (gStm_any _ B A c l hl (by have := hb1.size; have := hb2.size; omega) (HS.out.later hB (bthen hb1 hb2)) HQ.out).mono ?_; rintro e w3 ⟨rfl, hb3⟩; rw [HTK.out]))
  have hb123 := bthen (bthen hb1 hb2) hb3; clear hb1 hb2 hb3
  generalize hX : (w3.alloc (.cells #[.int .i64 nd, .int .i64 (s + 1), .int .i64 (t + 1), .int .i64 kd, .int .i64 pa, .int .i64 a, .int .i64 b9] 25)) = w4
  have hb34 : Below w3.heap.size w3 w4 := by rw [← hX]; exact balloc _ _
  have za : Has w4 w3.heap.size 25 #[.int .i64 nd, .int .i64 (s + 1), .int .i64 (t + 1), .int .i64 kd, .int .i64 pa, .int .i64 a, .int .i64 b9] := by rw [← hX]; exact has_new _ _ _
  clear hX
  have HB4 := Lib.hid (bthen hb123 hb34); have hs4 := HB4.out.size; clear hb123 hb34
  have la := has_lt za
  have q0 := has_cell za 0 rfl; have q1 := has_cell za 1 rfl; have q2 := has_cell za 2 rfl; have q3 := has_cell za 3 rfl; have q4 := has_cell za 4 rfl; have q5 := has_cell za 5 rfl; have q6 := has_cell za 6 rfl
  clear za
  have S0 : (fun W : World => (W.cell? ⟨w3.heap.size, 0, none⟩ = some (.int .i64 nd) ∧ W.cell? ⟨w3.heap.size, 1, none⟩ = some (.int .i64 (s + 1)) ∧ W.cell? ⟨w3.heap.size, 2, none⟩ = some (.int .i64 (t + 1)) ∧ W.cell? ⟨w3.heap.size, 3, none⟩ = some (.int .i64 kd) ∧ W.cell? ⟨w3.heap.size, 4, none⟩ = some (.int .i64 pa) ∧ W.cell? ⟨w3.heap.size, 5, none⟩ = some (.int .i64 a) ∧ W.cell? ⟨w3.heap.size, 6, none⟩ = some (.int .i64 b9)) ∧ Below w4.heap.size w4 W) w4.drew := ⟨⟨q0, q1, q2, q3, q4, q5, q6⟩, (Below.refl _ _).drew⟩
  clear q0 q1 q2 q3 q4 q5 q6
  refine wp_region_held_drew (S := (fun W : World => (W.cell? ⟨w3.heap.size, 0, none⟩ = some (.int .i64 nd) ∧ W.cell? ⟨w3.heap.size, 1, none⟩ = some (.int .i64 (s + 1)) ∧ W.cell? ⟨w3.heap.size, 2, none⟩ = some (.int .i64 (t + 1)) ∧ W.cell? ⟨w3.heap.size, 3, none⟩ = some (.int .i64 kd) ∧ W.cell? ⟨w3.heap.size, 4, none⟩ = some (.int .i64 pa) ∧ W.cell? ⟨w3.heap.size, 5, none⟩ = some (.int .i64 a) ∧ W.cell? ⟨w3.heap.size, 6, none⟩ = some (.int .i64 b9)) ∧ Below w4.heap.size w4 W)) (by kernel_rfl) S0 (fun _ => ?_)
  refine any_take (i := 0) (some 34) (.slice A l.length c) rfl rfl (by kernel_rfl) (by kernel_rfl) (by kernel_rfl) (fun _ _ _ h => h) rfl (fun W hSw => ?_) (S0) ?_
  · (try dsimp only at hSw); go_simp <;> with_reducible rfl
  try simp only [Act.put, List.setIfInBounds_toArray, List.set_cons_zero, List.set_cons_succ]
  refine any_take (i := 2) (some 36) (.slice A l.length c) rfl rfl (by kernel_rfl) (by kernel_rfl) (by kernel_rfl) (fun _ _ _ h => h) rfl (fun W hSw => ?_) (S0) ?_
  · (try dsimp only at hSw); go_simp <;> with_reducible rfl
  try simp only [Act.put, List.setIfInBounds_toArray, List.set_cons_zero, List.set_cons_succ]
  refine any_take (i := 3) (some 37) (.int .i64 nd) rfl rfl (by kernel_rfl) (by kernel_rfl) (by kernel_rfl) (fun _ _ _ h => h) rfl (fun W hSw => ?_) (S0) ?_
  · (try dsimp only at hSw); go_simp <;> with_reducible rfl
  try simp only [Act.put, List.setIfInBounds_toArray, List.set_cons_zero, List.set_cons_succ]
  refine any_take (i := 5) (some 39) (.agg #[.int .i64 nd, .int .i64 (s + 1), .int .i64 (t + 1), .int .i64 kd, .int .i64 pa, .int .i64 a, .int .i64 b9]) rfl rfl (by kernel_rfl) (by kernel_rfl) (by kernel_rfl) (fun _ _ _ h => h) rfl (fun W hSw => ?_) (S0) ?_
  · (try dsimp only at hSw); go_simp <;> with_reducible rfl
  try simp only [Act.put, List.setIfInBounds_toArray, List.set_cons_zero, List.set_cons_succ]
  refine wpAnyH_ready (rs := [1, 6]) (by kernel_rfl) (by simp) ?_
  refine (AllReadyH.cons rfl (fun K hK => ?_) (AllReadyH.cons rfl (fun K hK => ?_) AllReadyH.nil))
  · skip
    go_simp
    go_at_call 34
    refine (cloneEvent_any _ B A c l hl (Nat.le_trans hB (bthen HB4.out S0.2).size) (HS.out.later hB (bthen HB4.out S0.2))).mono ?_
    rintro e v1 ⟨A1, c1, rfl, hov1, hb8⟩
    have Sv1 : (fun W : World => (W.cell? ⟨w3.heap.size, 0, none⟩ = some (.int .i64 nd) ∧ W.cell? ⟨w3.heap.size, 1, none⟩ = some (.int .i64 (s + 1)) ∧ W.cell? ⟨w3.heap.size, 2, none⟩ = some (.int .i64 (t + 1)) ∧ W.cell? ⟨w3.heap.size, 3, none⟩ = some (.int .i64 kd) ∧ W.cell? ⟨w3.heap.size, 4, none⟩ = some (.int .i64 pa) ∧ W.cell? ⟨w3.heap.size, 5, none⟩ = some (.int .i64 a) ∧ W.cell? ⟨w3.heap.size, 6, none⟩ = some (.int .i64 b9)) ∧ Below w4.heap.size w4 W) v1 := ⟨⟨(bold hb8 _ _ (Nat.lt_of_lt_of_le la S0.2.size)).trans S0.1.1, (bold hb8 _ _ (Nat.lt_of_lt_of_le la S0.2.size)).trans S0.1.2.1, (bold hb8 _ _ (Nat.lt_of_lt_of_le la S0.2.size)).trans S0.1.2.2.1, (bold hb8 _ _ (Nat.lt_of_lt_of_le la S0.2.size)).trans S0.1.2.2.2.1, (bold hb8 _ _ (Nat.lt_of_lt_of_le la S0.2.size)).trans S0.1.2.2.2.2.1, (bold hb8 _ _ (Nat.lt_of_lt_of_le la S0.2.size)).trans S0.1.2.2.2.2.2.1, (bold hb8 _ _ (Nat.lt_of_lt_of_le la S0.2.size)).trans S0.1.2.2.2.2.2.2⟩, bthen S0.2 hb8⟩
    have hzv1 := hb8.size
    clear hb8
    go_wp2_with fail
    refine hK.out _ _ Sv1 (fun _ => ?_)
    clear hK K
    try simp only [Act.put, List.setIfInBounds_toArray, List.set_cons_zero, List.set_cons_succ]
    have hofirst := hov1
    refine wpAnyH_ready (rs := [4, 6]) (by kernel_rfl) (by simp) ?_
    refine (AllReadyH.cons rfl (fun K hK => ?_) (AllReadyH.cons rfl (fun K hK => ?_) AllReadyH.nil))
    · skip
      go_simp
      go_at_call 38
      refine (endE_any _ B A c l nd hl (Nat.le_trans hB (bthen HB4.out Sv1.2).size) (HS.out.later hB (bthen HB4.out Sv1.2)) HQ.out).mono ?_
      rintro e v2 ⟨rfl, hb8⟩
      rw [HAT.out]
      have Sv2 : (fun W : World => (W.cell? ⟨w3.heap.size, 0, none⟩ = some (.int .i64 nd) ∧ W.cell? ⟨w3.heap.size, 1, none⟩ = some (.int .i64 (s + 1)) ∧ W.cell? ⟨w3.heap.size, 2, none⟩ = some (.int .i64 (t + 1)) ∧ W.cell? ⟨w3.heap.size, 3, none⟩ = some (.int .i64 kd) ∧ W.cell? ⟨w3.heap.size, 4, none⟩ = some (.int .i64 pa) ∧ W.cell? ⟨w3.heap.size, 5, none⟩ = some (.int .i64 a) ∧ W.cell? ⟨w3.heap.size, 6, none⟩ = some (.int .i64 b9)) ∧ Below w4.heap.size w4 W) v2 := ⟨⟨(bold hb8 _ _ (Nat.lt_of_lt_of_le la Sv1.2.size)).trans Sv1.1.1, (bold hb8 _ _ (Nat.lt_of_lt_of_le la Sv1.2.size)).trans Sv1.1.2.1, (bold hb8 _ _ (Nat.lt_of_lt_of_le la Sv1.2.size)).trans Sv1.1.2.2.1, (bold hb8 _ _ (Nat.lt_of_lt_of_le la Sv1.2.size)).trans Sv1.1.2.2.2.1, (bold hb8 _ _ (Nat.lt_of_lt_of_le la Sv1.2.size)).trans Sv1.1.2.2.2.2.1, (bold hb8 _ _ (Nat.lt_of_lt_of_le la Sv1.2.size)).trans Sv1.1.2.2.2.2.2.1, (bold hb8 _ _ (Nat.lt_of_lt_of_le la Sv1.2.size)).trans Sv1.1.2.2.2.2.2.2⟩, bthen Sv1.2 hb8⟩
      have hov2 := own_kept hov1 hb8
      have hzv2 := hb8.size
      clear hb8
      go_wp2_with fail
      refine hK.out _ _ Sv2 (fun _ => ?_)
      clear hK K
      try simp only [Act.put, List.setIfInBounds_toArray, List.set_cons_zero, List.set_cons_succ]
      refine wpAnyH_ready (rs := [6]) (by kernel_rfl) (by simp) ?_
      refine (AllReadyH.cons rfl (fun K hK => ?_) AllReadyH.nil)
      go_simp
      try go_wp2_with fail
      generalize hX9 : (v2.alloc (.cells #[.int .i64 nd, .int .i64 (s + 1), .int .i64 (t + 1), .int .i64 kd, .int .i64 pa, .int .i64 a, .int .i64 b9] 25)) = v3
      have hb8 : Below v2.heap.size v2 v3 := by rw [← hX9]; exact balloc _ _
      have hvv3 : Has v3 v2.heap.size 25 #[.int .i64 nd, .int .i64 (s + 1), .int .i64 (t + 1), .int .i64 kd, .int .i64 pa, .int .i64 a, .int .i64 b9] := by rw [← hX9]; exact has_new _ _ _
      clear hX9
      have Sv3 : (fun W : World => (W.cell? ⟨w3.heap.size, 0, none⟩ = some (.int .i64 nd) ∧ W.cell? ⟨w3.heap.size, 1, none⟩ = some (.int .i64 (s + 1)) ∧ W.cell? ⟨w3.heap.size, 2, none⟩ = some (.int .i64 (t + 1)) ∧ W.cell? ⟨w3.heap.size, 3, none⟩ = some (.int .i64 kd) ∧ W.cell? ⟨w3.heap.size, 4, none⟩ = some (.int .i64 pa) ∧ W.cell? ⟨w3.heap.size, 5, none⟩ = some (.int .i64 a) ∧ W.cell? ⟨w3.heap.size, 6, none⟩ = some (.int .i64 b9)) ∧ Below w4.heap.size w4 W) v3 := ⟨⟨(bold hb8 _ _ (Nat.lt_of_lt_of_le la Sv2.2.size)).trans Sv2.1.1, (bold hb8 _ _ (Nat.lt_of_lt_of_le la Sv2.2.size)).trans Sv2.1.2.1, (bold hb8 _ _ (Nat.lt_of_lt_of_le la Sv2.2.size)).trans Sv2.1.2.2.1, (bold hb8 _ _ (Nat.lt_of_lt_of_le la Sv2.2.size)).trans Sv2.1.2.2.2.1, (bold hb8 _ _ (Nat.lt_of_lt_of_le la Sv2.2.size)).trans Sv2.1.2.2.2.2.1, (bold hb8 _ _ (Nat.lt_of_lt_of_le la Sv2.2.size)).trans Sv2.1.2.2.2.2.2.1, (bold hb8 _ _ (Nat.lt_of_lt_of_le la Sv2.2.size)).trans Sv2.1.2.2.2.2.2.2⟩, bthen Sv2.2 hb8⟩
      have hov3 := own_kept hov2 hb8
      refine hK.out _ _ Sv3 (fun _ => ?_)
      clear hK K hb8
      try simp only [Act.put, List.setIfInBounds_toArray, List.set_cons_zero, List.set_cons_succ]
      refine wpAnyH_ready (rs := [7]) (by kernel_rfl) (by simp) ?_
      refine (AllReadyH.cons rfl (fun K hK => ?_) AllReadyH.nil)
      have hne : ∀ g, A1 = some ⟨g, 0, none⟩ → v2.heap.size ≠ g := by
        rintro g rfl
        obtain ⟨_, cu, hcu⟩ := own_has hofirst g rfl; have h2 := has_lt hcu
        have h3 : v1.heap.size ≤ v2.heap.size := hzv2
        intro e9; subst e9; exact absurd (Nat.lt_of_lt_of_le h2 h3) (Nat.lt_irrefl _)
      go_simp
      go_at_call 37
      refine (insE_any _ (w4.drew.heap.size) A1 c1 l (v2.heap.size) nd (s + 1) (t + 1) kd pa a b9 hov3 (Nat.le_of_lt_succ (Nat.lt_succ_of_le (Nat.le_trans (Nat.le_trans (hzv1) hzv2) (show v2.heap.size ≤ v3.heap.size from Nat.le_of_lt (has_lt hvv3))))) (by omega) hvv3 at9 hal hne).mono ?_
      rintro e v4 hans
      rw [HRE.out] at hans
      obtain ⟨A5, c5, hc5, rfl, hor, hb8⟩ := hans
      have hbq : Below w4.heap.size w4 v4 := Sv3.2.trans (hb8.mono (S0.2.size))
      have Sv4 : (fun W : World => (W.cell? ⟨w3.heap.size, 0, none⟩ = some (.int .i64 nd) ∧ W.cell? ⟨w3.heap.size, 1, none⟩ = some (.int .i64 (s + 1)) ∧ W.cell? ⟨w3.heap.size, 2, none⟩ = some (.int .i64 (t + 1)) ∧ W.cell? ⟨w3.heap.size, 3, none⟩ = some (.int .i64 kd) ∧ W.cell? ⟨w3.heap.size, 4, none⟩ = some (.int .i64 pa) ∧ W.cell? ⟨w3.heap.size, 5, none⟩ = some (.int .i64 a) ∧ W.cell? ⟨w3.heap.size, 6, none⟩ = some (.int .i64 b9)) ∧ Below w4.heap.size w4 W) v4 := ⟨⟨((hbq).cell (p := ⟨w3.heap.size, 0, none⟩) la).trans S0.1.1, ((hbq).cell (p := ⟨w3.heap.size, 1, none⟩) la).trans S0.1.2.1, ((hbq).cell (p := ⟨w3.heap.size, 2, none⟩) la).trans S0.1.2.2.1, ((hbq).cell (p := ⟨w3.heap.size, 3, none⟩) la).trans S0.1.2.2.2.1, ((hbq).cell (p := ⟨w3.heap.size, 4, none⟩) la).trans S0.1.2.2.2.2.1, ((hbq).cell (p := ⟨w3.heap.size, 5, none⟩) la).trans S0.1.2.2.2.2.2.1, ((hbq).cell (p := ⟨w3.heap.size, 6, none⟩) la).trans S0.1.2.2.2.2.2.2⟩, hbq⟩
      clear hb8 hne
      go_wp2_with fail
      refine hK.out _ _ Sv4 (fun _ => ?_)
      clear hK K
      try simp only [Act.put, List.setIfInBounds_toArray, List.set_cons_zero, List.set_cons_succ]
      refine any_take (i := 8) (some 15) (.slice A5 RR.length c5) rfl rfl (by kernel_rfl) (by kernel_rfl) (by kernel_rfl) (fun _ _ _ h => h) rfl (fun W hSw => ?_) (Sv4) ?_
      · (try dsimp only at hSw); go_simp <;> with_reducible rfl
      try simp only [Act.put, List.setIfInBounds_toArray, List.set_cons_zero, List.set_cons_succ]
      refine wpAnyH_done (by kernel_rfl) ?_ _
      have HB5 := Lib.hid (bthen HB4.out hbq); have HOR := Lib.hid (hor.more ((bthen HB4.out S0.2).size)); clear hbq hor
      go_wp2_with (first | (go_at_call 14; refine (jrnI_any _ v4.heap.size A5 c5 RR (by unfold maxLen; omega) (Nat.le_refl _) HOR.out.ev).mono ?_; rintro e u1 ⟨rfl, hu1⟩; rw [HV.out]) | (go_at_call 34; refine (cloneEvent_any _ B A c l hl (Nat.le_trans hB (bthen HB5.out hu1).size) (HS.out.later hB (bthen HB5.out hu1))).mono ?_; rintro e u2 ⟨A6, c6, rfl, hown6, hu2⟩))
      have hcap6 := own_cap8 hown6
      obtain ⟨A9, c9, hv9, hor6⟩ := or_own hown6
      injection hv9 with hv9; subst hv9
      go_ret2
      rw [addE_no HQ2.out]
      exact ⟨A6, c6, hcap6, rfl, hor6.more (bthen HB5.out hu1).size, bthen (bthen HB5.out hu1) hu2⟩
    · skip
      go_simp
      try go_wp2_with fail
      generalize hX9 : (v1.alloc (.cells #[.int .i64 nd, .int .i64 (s + 1), .int .i64 (t + 1), .int .i64 kd, .int .i64 pa, .int .i64 a, .int .i64 b9] 25)) = v5
      have hb8 : Below v1.heap.size v1 v5 := by rw [← hX9]; exact balloc _ _
      have hvv5 : Has v5 v1.heap.size 25 #[.int .i64 nd, .int .i64 (s + 1), .int .i64 (t + 1), .int .i64 kd, .int .i64 pa, .int .i64 a, .int .i64 b9] := by rw [← hX9]; exact has_new _ _ _
      clear hX9
      have Sv5 : (fun W : World => (W.cell? ⟨w3.heap.size, 0, none⟩ = some (.int .i64 nd) ∧ W.cell? ⟨w3.heap.size, 1, none⟩ = some (.int .i64 (s + 1)) ∧ W.cell? ⟨w3.heap.size, 2, none⟩ = some (.int .i64 (t + 1)) ∧ W.cell? ⟨w3.heap.size, 3, none⟩ = some (.int .i64 kd) ∧ W.cell? ⟨w3.heap.size, 4, none⟩ = some (.int .i64 pa) ∧ W.cell? ⟨w3.heap.size, 5, none⟩ = some (.int .i64 a) ∧ W.cell? ⟨w3.heap.size, 6, none⟩ = some (.int .i64 b9)) ∧ Below w4.heap.size w4 W) v5 := ⟨⟨(bold hb8 _ _ (Nat.lt_of_lt_of_le la Sv1.2.size)).trans Sv1.1.1, (bold hb8 _ _ (Nat.lt_of_lt_of_le la Sv1.2.size)).trans Sv1.1.2.1, (bold hb8 _ _ (Nat.lt_of_lt_of_le la Sv1.2.size)).trans Sv1.1.2.2.1, (bold hb8 _ _ (Nat.lt_of_lt_of_le la Sv1.2.size)).trans Sv1.1.2.2.2.1, (bold hb8 _ _ (Nat.lt_of_lt_of_le la Sv1.2.size)).trans Sv1.1.2.2.2.2.1, (bold hb8 _ _ (Nat.lt_of_lt_of_le la Sv1.2.size)).trans Sv1.1.2.2.2.2.2.1, (bold hb8 _ _ (Nat.lt_of_lt_of_le la Sv1.2.size)).trans Sv1.1.2.2.2.2.2.2⟩, bthen Sv1.2 hb8⟩
      have hov5 := own_kept hov1 hb8
      refine hK.out _ _ Sv5 (fun _ => ?_)
      clear hK K hb8
      try simp only [Act.put, List.setIfInBounds_toArray, List.set_cons_zero, List.set_cons_succ]
      refine wpAnyH_ready (rs := [4]) (by kernel_rfl) (by simp) ?_
      refine (AllReadyH.cons rfl (fun K hK => ?_) AllReadyH.nil)
      go_simp
      go_at_call 38
      refine (endE_any _ B A c l nd hl (Nat.le_trans hB (bthen HB4.out Sv5.2).size) (HS.out.later hB (bthen HB4.out Sv5.2)) HQ.out).mono ?_
      rintro e v6 ⟨rfl, hb8⟩
      rw [HAT.out]
      have Sv6 : (fun W : World => (W.cell? ⟨w3.heap.size, 0, none⟩ = some (.int .i64 nd) ∧ W.cell? ⟨w3.heap.size, 1, none⟩ = some (.int .i64 (s + 1)) ∧ W.cell? ⟨w3.heap.size, 2, none⟩ = some (.int .i64 (t + 1)) ∧ W.cell? ⟨w3.heap.size, 3, none⟩ = some (.int .i64 kd) ∧ W.cell? ⟨w3.heap.size, 4, none⟩ = some (.int .i64 pa) ∧ W.cell? ⟨w3.heap.size, 5, none⟩ = some (.int .i64 a) ∧ W.cell? ⟨w3.heap.size, 6, none⟩ = some (.int .i64 b9)) ∧ Below w4.heap.size w4 W) v6 := ⟨⟨(bold hb8 _ _ (Nat.lt_of_lt_of_le la Sv5.2.size)).trans Sv5.1.1, (bold hb8 _ _ (Nat.lt_of_lt_of_le la Sv5.2.size)).trans Sv5.1.2.1, (bold hb8 _ _ (Nat.lt_of_lt_of_le la Sv5.2.size)).trans Sv5.1.2.2.1, (bold hb8 _ _ (Nat.lt_of_lt_of_le la Sv5.2.size)).trans Sv5.1.2.2.2.1, (bold hb8 _ _ (Nat.lt_of_lt_of_le la Sv5.2.size)).trans Sv5.1.2.2.2.2.1, (bold hb8 _ _ (Nat.lt_of_lt_of_le la Sv5.2.size)).trans Sv5.1.2.2.2.2.2.1, (bold hb8 _ _ (Nat.lt_of_lt_of_le la Sv5.2.size)).trans Sv5.1.2.2.2.2.2.2⟩, bthen Sv5.2 hb8⟩
      have hov6 := own_kept hov5 hb8
      have hvv6 := has_call hvv5 hb8
      have hzv6 := hb8.size
      clear hb8
      go_wp2_with fail
      refine hK.out _ _ Sv6 (fun _ => ?_)
      clear hK K
      try simp only [Act.put, List.setIfInBounds_toArray, List.set_cons_zero, List.set_cons_succ]
      refine wpAnyH_ready (rs := [7]) (by kernel_rfl) (by simp) ?_
      refine (AllReadyH.cons rfl (fun K hK => ?_) AllReadyH.nil)
      have hne : ∀ g, A1 = some ⟨g, 0, none⟩ → v1.heap.size ≠ g := by
        rintro g rfl
        obtain ⟨_, cu, hcu⟩ := own_has hofirst g rfl; have h2 := has_lt hcu
        have h3 : v1.heap.size ≤ v1.heap.size := Nat.le_refl _
        intro e9; subst e9; exact absurd (Nat.lt_of_lt_of_le h2 h3) (Nat.lt_irrefl _)
      go_simp
      go_at_call 37
      refine (insE_any _ (w4.drew.heap.size) A1 c1 l (v1.heap.size) nd (s + 1) (t + 1) kd pa a b9 hov6 (Nat.le_of_lt_succ (Nat.lt_succ_of_le (Nat.le_trans (Nat.le_trans (hzv1) (show v1.heap.size ≤ v5.heap.size from Nat.le_of_lt (has_lt hvv5))) hzv6))) (by omega) hvv6 at9 hal hne).mono ?_
      rintro e v7 hans
      rw [HRE.out] at hans
      obtain ⟨A5, c5, hc5, rfl, hor, hb8⟩ := hans
      have hbq : Below w4.heap.size w4 v7 := Sv6.2.trans (hb8.mono (S0.2.size))
      have Sv7 : (fun W : World => (W.cell? ⟨w3.heap.size, 0, none⟩ = some (.int .i64 nd) ∧ W.cell? ⟨w3.heap.size, 1, none⟩ = some (.int .i64 (s + 1)) ∧ W.cell? ⟨w3.heap.size, 2, none⟩ = some (.int .i64 (t + 1)) ∧ W.cell? ⟨w3.heap.size, 3, none⟩ = some (.int .i64 kd) ∧ W.cell? ⟨w3.heap.size, 4, none⟩ = some (.int .i64 pa) ∧ W.cell? ⟨w3.heap.size, 5, none⟩ = some (.int .i64 a) ∧ W.cell? ⟨w3.heap.size, 6, none⟩ = some (.int .i64 b9)) ∧ Below w4.heap.size w4 W) v7 := ⟨⟨((hbq).cell (p := ⟨w3.heap.size, 0, none⟩) la).trans S0.1.1, ((hbq).cell (p := ⟨w3.heap.size, 1, none⟩) la).trans S0.1.2.1, ((hbq).cell (p := ⟨w3.heap.size, 2, none⟩) la).trans S0.1.2.2.1, ((hbq).cell (p := ⟨w3.heap.size, 3, none⟩) la).trans S0.1.2.2.2.1, ((hbq).cell (p := ⟨w3.heap.size, 4, none⟩) la).trans S0.1.2.2.2.2.1, ((hbq).cell (p := ⟨w3.heap.size, 5, none⟩) la).trans S0.1.2.2.2.2.2.1, ((hbq).cell (p := ⟨w3.heap.size, 6, none⟩) la).trans S0.1.2.2.2.2.2.2⟩, hbq⟩
      clear hb8 hne
      go_wp2_with fail
      refine hK.out _ _ Sv7 (fun _ => ?_)
      clear hK K
      try simp only [Act.put, List.setIfInBounds_toArray, List.set_cons_zero, List.set_cons_succ]
      refine any_take (i := 8) (some 15) (.slice A5 RR.length c5) rfl rfl (by kernel_rfl) (by kernel_rfl) (by kernel_rfl) (fun _ _ _ h => h) rfl (fun W hSw => ?_) (Sv7) ?_
      · (try dsimp only at hSw); go_simp <;> with_reducible rfl
      try simp only [Act.put, List.setIfInBounds_toArray, List.set_cons_zero, List.set_cons_succ]
      refine wpAnyH_done (by kernel_rfl) ?_ _
      have HB5 := Lib.hid (bthen HB4.out hbq); have HOR := Lib.hid (hor.more ((bthen HB4.out S0.2).size)); clear hbq hor
      go_wp2_with (first | (go_at_call 14; refine (jrnI_any _ v7.heap.size A5 c5 RR (by unfold maxLen; omega) (Nat.le_refl _) HOR.out.ev).mono ?_; rintro e u1 ⟨rfl, hu1⟩; rw [HV.out]) | (go_at_call 34; refine (cloneEvent_any _ B A c l hl (Nat.le_trans hB (bthen HB5.out hu1).size) (HS.out.later hB (bthen HB5.out hu1))).mono ?_; rintro e u2 ⟨A6, c6, rfl, hown6, hu2⟩))
      have hcap6 := own_cap8 hown6
      obtain ⟨A9, c9, hv9, hor6⟩ := or_own hown6
      injection hv9 with hv9; subst hv9
      go_ret2
      rw [addE_no HQ2.out]
      exact ⟨A6, c6, hcap6, rfl, hor6.more (bthen HB5.out hu1).size, bthen (bthen HB5.out hu1) hu2⟩
  · skip
    go_simp
    try go_wp2_with fail
    generalize hX9 : (w4.alloc (.cells #[.int .i64 nd, .int .i64 (s + 1), .int .i64 (t + 1), .int .i64 kd, .int .i64 pa, .int .i64 a, .int .i64 b9] 25)).drew = v8
    have hb8 : Below w4.drew.heap.size w4.drew v8 := by rw [← hX9]; exact balloc _ _
    have hvv8 : Has v8 w4.heap.size 25 #[.int .i64 nd, .int .i64 (s + 1), .int .i64 (t + 1), .int .i64 kd, .int .i64 pa, .int .i64 a, .int .i64 b9] := by rw [← hX9]; exact has_new _ _ _
    clear hX9
    have Sv8 : (fun W : World => (W.cell? ⟨w3.heap.size, 0, none⟩ = some (.int .i64 nd) ∧ W.cell? ⟨w3.heap.size, 1, none⟩ = some (.int .i64 (s + 1)) ∧ W.cell? ⟨w3.heap.size, 2, none⟩ = some (.int .i64 (t + 1)) ∧ W.cell? ⟨w3.heap.size, 3, none⟩ = some (.int .i64 kd) ∧ W.cell? ⟨w3.heap.size, 4, none⟩ = some (.int .i64 pa) ∧ W.cell? ⟨w3.heap.size, 5, none⟩ = some (.int .i64 a) ∧ W.cell? ⟨w3.heap.size, 6, none⟩ = some (.int .i64 b9)) ∧ Below w4.heap.size w4 W) v8 := ⟨⟨(bold hb8 _ _ (Nat.lt_of_lt_of_le la S0.2.size)).trans S0.1.1, (bold hb8 _ _ (Nat.lt_of_lt_of_le la S0.2.size)).trans S0.1.2.1, (bold hb8 _ _ (Nat.lt_of_lt_of_le la S0.2.size)).trans S0.1.2.2.1, (bold hb8 _ _ (Nat.lt_of_lt_of_le la S0.2.size)).trans S0.1.2.2.2.1, (bold hb8 _ _ (Nat.lt_of_lt_of_le la S0.2.size)).trans S0.1.2.2.2.2.1, (bold hb8 _ _ (Nat.lt_of_lt_of_le la S0.2.size)).trans S0.1.2.2.2.2.2.1, (bold hb8 _ _ (Nat.lt_of_lt_of_le la S0.2.size)).trans S0.1.2.2.2.2.2.2⟩, bthen S0.2 hb8⟩
    refine hK.out _ _ Sv8 (fun _ => ?_)
    clear hK K hb8
    try simp only [Act.put, List.setIfInBounds_toArray, List.set_cons_zero, List.set_cons_succ]
    have hvfirst : Has v8 w4.heap.size 25 #[.int .i64 nd, .int .i64 (s + 1), .int .i64 (t + 1), .int .i64 kd, .int .i64 pa, .int .i64 a, .int .i64 b9] := hvv8
    refine wpAnyH_ready (rs := [1]) (by kernel_rfl) (by simp) ?_
    refine (AllReadyH.cons rfl (fun K hK => ?_) AllReadyH.nil)
    go_simp
    go_at_call 34
    refine (cloneEvent_any _ B A c l hl (Nat.le_trans hB (bthen HB4.out Sv8.2).size) (HS.out.later hB (bthen HB4.out Sv8.2))).mono ?_
    rintro e v9 ⟨A1, c1, rfl, hov9, hb8⟩
    have Sv9 : (fun W : World => (W.cell? ⟨w3.heap.size, 0, none⟩ = some (.int .i64 nd) ∧ W.cell? ⟨w3.heap.size, 1, none⟩ = some (.int .i64 (s + 1)) ∧ W.cell? ⟨w3.heap.size, 2, none⟩ = some (.int .i64 (t + 1)) ∧ W.cell? ⟨w3.heap.size, 3, none⟩ = some (.int .i64 kd) ∧ W.cell? ⟨w3.heap.size, 4, none⟩ = some (.int .i64 pa) ∧ W.cell? ⟨w3.heap.size, 5, none⟩ = some (.int .i64 a) ∧ W.cell? ⟨w3.heap.size, 6, none⟩ = some (.int .i64 b9)) ∧ Below w4.heap.size w4 W) v9 := ⟨⟨(bold hb8 _ _ (Nat.lt_of_lt_of_le la Sv8.2.size)).trans Sv8.1.1, (bold hb8 _ _ (Nat.lt_of_lt_of_le la Sv8.2.size)).trans Sv8.1.2.1, (bold hb8 _ _ (Nat.lt_of_lt_of_le la Sv8.2.size)).trans Sv8.1.2.2.1, (bold hb8 _ _ (Nat.lt_of_lt_of_le la Sv8.2.size)).trans Sv8.1.2.2.2.1, (bold hb8 _ _ (Nat.lt_of_lt_of_le la Sv8.2.size)).trans Sv8.1.2.2.2.2.1, (bold hb8 _ _ (Nat.lt_of_lt_of_le la Sv8.2.size)).trans Sv8.1.2.2.2.2.2.1, (bold hb8 _ _ (Nat.lt_of_lt_of_le la Sv8.2.size)).trans Sv8.1.2.2.2.2.2.2⟩, bthen Sv8.2 hb8⟩
    have hvv9 := has_call hvv8 hb8
    have hzv9 := hb8.size
    clear hb8
    go_wp2_with fail
    refine hK.out _ _ Sv9 (fun _ => ?_)
    clear hK K
    try simp only [Act.put, List.setIfInBounds_toArray, List.set_cons_zero, List.set_cons_succ]
    refine wpAnyH_ready (rs := [4]) (by kernel_rfl) (by simp) ?_
    refine (AllReadyH.cons rfl (fun K hK => ?_) AllReadyH.nil)
    go_simp
    go_at_call 38
    refine (endE_any _ B A c l nd hl (Nat.le_trans hB (bthen HB4.out Sv9.2).size) (HS.out.later hB (bthen HB4.out Sv9.2)) HQ.out).mono ?_
    rintro e v10 ⟨rfl, hb8⟩
    rw [HAT.out]
    have Sv10 : (fun W : World => (W.cell? ⟨w3.heap.size, 0, none⟩ = some (.int .i64 nd) ∧ W.cell? ⟨w3.heap.size, 1, none⟩ = some (.int .i64 (s + 1)) ∧ W.cell? ⟨w3.heap.size, 2, none⟩ = some (.int .i64 (t + 1)) ∧ W.cell? ⟨w3.heap.size, 3, none⟩ = some (.int .i64 kd) ∧ W.cell? ⟨w3.heap.size, 4, none⟩ = some (.int .i64 pa) ∧ W.cell? ⟨w3.heap.size, 5, none⟩ = some (.int .i64 a) ∧ W.cell? ⟨w3.heap.size, 6, none⟩ = some (.int .i64 b9)) ∧ Below w4.heap.size w4 W) v10 := ⟨⟨(bold hb8 _ _ (Nat.lt_of_lt_of_le la Sv9.2.size)).trans Sv9.1.1, (bold hb8 _ _ (Nat.lt_of_lt_of_le la Sv9.2.size)).trans Sv9.1.2.1, (bold hb8 _ _ (Nat.lt_of_lt_of_le la Sv9.2.size)).trans Sv9.1.2.2.1, (bold hb8 _ _ (Nat.lt_of_lt_of_le la Sv9.2.size)).trans Sv9.1.2.2.2.1, (bold hb8 _ _ (Nat.lt_of_lt_of_le la Sv9.2.size)).trans Sv9.1.2.2.2.2.1, (bold hb8 _ _ (Nat.lt_of_lt_of_le la Sv9.2.size)).trans Sv9.1.2.2.2.2.2.1, (bold hb8 _ _ (Nat.lt_of_lt_of_le la Sv9.2.size)).trans Sv9.1.2.2.2.2.2.2⟩, bthen Sv9.2 hb8⟩
    have hov10 := own_kept hov9 hb8
    have hvv10 := has_call hvv9 hb8
    have hzv10 := hb8.size
    clear hb8
    go_wp2_with fail
    refine hK.out _ _ Sv10 (fun _ => ?_)
    clear hK K
    try simp only [Act.put, List.setIfInBounds_toArray, List.set_cons_zero, List.set_cons_succ]
    refine wpAnyH_ready (rs := [7]) (by kernel_rfl) (by simp) ?_
    refine (AllReadyH.cons rfl (fun K hK => ?_) AllReadyH.nil)
    have hne : ∀ g, A1 = some ⟨g, 0, none⟩ → w4.heap.size ≠ g := by
      rintro g rfl
      have h1 := (own_has hov10 g rfl).1; have h2 := has_lt hvfirst
      intro e9; subst e9; exact absurd (Nat.lt_of_lt_of_le h2 h1) (Nat.lt_irrefl _)
    go_simp
    go_at_call 37
    refine (insE_any _ (v8.heap.size) A1 c1 l (w4.heap.size) nd (s + 1) (t + 1) kd pa a b9 hov10 (Nat.le_of_lt_succ (Nat.lt_succ_of_le (Nat.le_trans (hzv9) hzv10))) (by omega) hvv10 at9 hal hne).mono ?_
    rintro e v11 hans
    rw [HRE.out] at hans
    obtain ⟨A5, c5, hc5, rfl, hor, hb8⟩ := hans
    have hbq : Below w4.heap.size w4 v11 := Sv10.2.trans (hb8.mono (Sv8.2.size))
    have Sv11 : (fun W : World => (W.cell? ⟨w3.heap.size, 0, none⟩ = some (.int .i64 nd) ∧ W.cell? ⟨w3.heap.size, 1, none⟩ = some (.int .i64 (s + 1)) ∧ W.cell? ⟨w3.heap.size, 2, none⟩ = some (.int .i64 (t + 1)) ∧ W.cell? ⟨w3.heap.size, 3, none⟩ = some (.int .i64 kd) ∧ W.cell? ⟨w3.heap.size, 4, none⟩ = some (.int .i64 pa) ∧ W.cell? ⟨w3.heap.size, 5, none⟩ = some (.int .i64 a) ∧ W.cell? ⟨w3.heap.size, 6, none⟩ = some (.int .i64 b9)) ∧ Below w4.heap.size w4 W) v11 := ⟨⟨((hbq).cell (p := ⟨w3.heap.size, 0, none⟩) la).trans S0.1.1, ((hbq).cell (p := ⟨w3.heap.size, 1, none⟩) la).trans S0.1.2.1, ((hbq).cell (p := ⟨w3.heap.size, 2, none⟩) la).trans S0.1.2.2.1, ((hbq).cell (p := ⟨w3.heap.size, 3, none⟩) la).trans S0.1.2.2.2.1, ((hbq).cell (p := ⟨w3.heap.size, 4, none⟩) la).trans S0.1.2.2.2.2.1, ((hbq).cell (p := ⟨w3.heap.size, 5, none⟩) la).trans S0.1.2.2.2.2.2.1, ((hbq).cell (p := ⟨w3.heap.size, 6, none⟩) la).trans S0.1.2.2.2.2.2.2⟩, hbq⟩
    clear hb8 hne
    go_wp2_with fail
    refine hK.out _ _ Sv11 (fun _ => ?_)
    clear hK K
    try simp only [Act.put, List.setIfInBounds_toArray, List.set_cons_zero, List.set_cons_succ]
    refine any_take (i := 8) (some 15) (.slice A5 RR.length c5) rfl rfl (by kernel_rfl) (by kernel_rfl) (by kernel_rfl) (fun _ _ _ h => h) rfl (fun W hSw => ?_) (Sv11) ?_
    · (try dsimp only at hSw); go_simp <;> with_reducible rfl
    try simp only [Act.put, List.setIfInBounds_toArray, List.set_cons_zero, List.set_cons_succ]
    refine wpAnyH_done (by kernel_rfl) ?_ _
    have HB5 := Lib.hid (bthen HB4.out hbq); have HOR := Lib.hid (hor.more ((bthen HB4.out Sv8.2).size)); clear hbq hor
    go_wp2_with (first | (go_at_call 14; refine (jrnI_any _ v11.heap.size A5 c5 RR (by unfold maxLen; omega) (Nat.le_refl _) HOR.out.ev).mono ?_; rintro e u1 ⟨rfl, hu1⟩; rw [HV.out]) | (go_at_call 34; refine (cloneEvent_any _ B A c l hl (Nat.le_trans hB (bthen HB5.out hu1).size) (HS.out.later hB (bthen HB5.out hu1))).mono ?_; rintro e u2 ⟨A6, c6, rfl, hown6, hu2⟩))
    have hcap6 := own_cap8 hown6
    obtain ⟨A9, c9, hv9, hor6⟩ := or_own hown6
    injection hv9 with hv9; subst hv9
    go_ret2
    rw [addE_no HQ2.out]
    exact ⟨A6, c6, hcap6, rfl, hor6.more (bthen HB5.out hu1).size, bthen (bthen HB5.out hu1) hu2⟩
set_option maxRecDepth 100000 in
set_option maxHeartbeats 8000000 in
theorem addP_yes (w : World) (B : Nat) (A : Option Addr) (c : Nat) (l : List Ev) (nd kd pa a b9 : Int) (hl : l.length ≤ 1048576) (hB : B ≤ w.heap.size) (hS : evL w B A l) (hq : jrnB l = true) (hq2 : jrnB (insEv l nd kd pa a b9) = true) : Calls Try.prog 17 #[.slice A l.length c, .int .i64 nd, .int .i64 kd, .int .i64 pa, .int .i64 a, .int .i64 b9] w (AnsE2 (addE l nd kd pa a b9) w) := by
  have h60 := jrn_len hq; have sin := seqK_in hq nd l.length; have tin := stmK_in hq l.length
  have hlm : l.length ≤ maxLen := by unfold maxLen; omega
  have HLM := Lib.hid hlm; unfold maxLen at hlm
  have HS := Lib.hid hS; have HQ := Lib.hid hq; clear hS hq
  have HQ2 := Lib.hid hq2; clear hq2
  obtain ⟨s, hs⟩ : ∃ s, seqK l nd l.length = s := ⟨_, rfl⟩; obtain ⟨t, ht⟩ : ∃ t, stmK l l.length = t := ⟨_, rfl⟩; obtain ⟨at9, hat⟩ : ∃ n, atK l nd l.length = n := ⟨_, rfl⟩
  rw [hs] at sin; rw [ht] at tin
  have hal := atK_le l nd l.length; rw [hat] at hal
  obtain ⟨RR, hRR⟩ : ∃ R, insEv l nd kd pa a b9 = R := ⟨_, rfl⟩
  have hRe : l.take at9 ++ ⟨nd, s + 1, t + 1, kd, pa, a, b9⟩ :: l.drop at9 = RR := by rw [← hRR]; unfold insEv newEv; rw [hs, ht, hat]
  have hRl : RR.length = l.length + 1 := by rw [← hRR]; exact insEv_len l nd kd pa a b9
  have hR61 : RR.length ≤ 61 := by omega
  have HSK := Lib.hid hs; have HTK := Lib.hid ht; have HAT := Lib.hid hat; have HRR := Lib.hid hRR; have HRE := Lib.hid hRe; clear hs ht hat hRR hRe hRl
  have hv := HQ2.out; rw [HRR.out] at hv; have HV := Lib.hid hv; clear hv
  have hw1 : IntKind.i64.wrap (s + 1) = s + 1 := by rw [IntKind.wrap_i64]; omega
  have hw2 : IntKind.i64.wrap (t + 1) = t + 1 := by rw [IntKind.wrap_i64]; omega
  go_enter Try.func17, Try.ntmps17
  go_wp2_with (first | (go_at_call 14; refine (jrnI_any _ B A c l HLM.out hB HS.out).mono ?_; rintro e w1 ⟨rfl, hb1⟩; rw [HQ.out]) | (go_at_call 35; refine (gSeq_any _ B A c l nd hl (by have := hb1.size; omega) (HS.out.later hB hb1) HQ.out).mono ?_; rintro e w2 ⟨rfl, hb2⟩; rw [HSK.out]) | (go_at_call 36; refine (gStm_any _ B A c l hl (by have := hb1.size; have := hb2.size; omega) (HS.out.later hB (bthen hb1 hb2)) HQ.out).mono ?_; rintro e w3 ⟨rfl, hb3⟩; rw [HTK.out]))
  have hb123 := bthen (bthen hb1 hb2) hb3; clear hb1 hb2 hb3
  generalize hX : (w3.alloc (.cells #[.int .i64 nd, .int .i64 (s + 1), .int .i64 (t + 1), .int .i64 kd, .int .i64 pa, .int .i64 a, .int .i64 b9] 25)) = w4
  have hb34 : Below w3.heap.size w3 w4 := by rw [← hX]; exact balloc _ _
  have za : Has w4 w3.heap.size 25 #[.int .i64 nd, .int .i64 (s + 1), .int .i64 (t + 1), .int .i64 kd, .int .i64 pa, .int .i64 a, .int .i64 b9] := by rw [← hX]; exact has_new _ _ _
  clear hX
  have HB4 := Lib.hid (bthen hb123 hb34); have hs4 := HB4.out.size; clear hb123 hb34
  have la := has_lt za
  have q0 := has_cell za 0 rfl; have q1 := has_cell za 1 rfl; have q2 := has_cell za 2 rfl; have q3 := has_cell za 3 rfl; have q4 := has_cell za 4 rfl; have q5 := has_cell za 5 rfl; have q6 := has_cell za 6 rfl
  clear za
  have S0 : (fun W : World => (W.cell? ⟨w3.heap.size, 0, none⟩ = some (.int .i64 nd) ∧ W.cell? ⟨w3.heap.size, 1, none⟩ = some (.int .i64 (s + 1)) ∧ W.cell? ⟨w3.heap.size, 2, none⟩ = some (.int .i64 (t + 1)) ∧ W.cell? ⟨w3.heap.size, 3, none⟩ = some (.int .i64 kd) ∧ W.cell? ⟨w3.heap.size, 4, none⟩ = some (.int .i64 pa) ∧ W.cell? ⟨w3.heap.size, 5, none⟩ = some (.int .i64 a) ∧ W.cell? ⟨w3.heap.size, 6, none⟩ = some (.int .i64 b9)) ∧ Below w4.heap.size w4 W) w4.drew := ⟨⟨q0, q1, q2, q3, q4, q5, q6⟩, (Below.refl _ _).drew⟩
  clear q0 q1 q2 q3 q4 q5 q6
  refine wp_region_held_drew (S := (fun W : World => (W.cell? ⟨w3.heap.size, 0, none⟩ = some (.int .i64 nd) ∧ W.cell? ⟨w3.heap.size, 1, none⟩ = some (.int .i64 (s + 1)) ∧ W.cell? ⟨w3.heap.size, 2, none⟩ = some (.int .i64 (t + 1)) ∧ W.cell? ⟨w3.heap.size, 3, none⟩ = some (.int .i64 kd) ∧ W.cell? ⟨w3.heap.size, 4, none⟩ = some (.int .i64 pa) ∧ W.cell? ⟨w3.heap.size, 5, none⟩ = some (.int .i64 a) ∧ W.cell? ⟨w3.heap.size, 6, none⟩ = some (.int .i64 b9)) ∧ Below w4.heap.size w4 W)) (by kernel_rfl) S0 (fun _ => ?_)
  refine any_take (i := 0) (some 34) (.slice A l.length c) rfl rfl (by kernel_rfl) (by kernel_rfl) (by kernel_rfl) (fun _ _ _ h => h) rfl (fun W hSw => ?_) (S0) ?_
  · (try dsimp only at hSw); go_simp <;> with_reducible rfl
  try simp only [Act.put, List.setIfInBounds_toArray, List.set_cons_zero, List.set_cons_succ]
  refine any_take (i := 2) (some 36) (.slice A l.length c) rfl rfl (by kernel_rfl) (by kernel_rfl) (by kernel_rfl) (fun _ _ _ h => h) rfl (fun W hSw => ?_) (S0) ?_
  · (try dsimp only at hSw); go_simp <;> with_reducible rfl
  try simp only [Act.put, List.setIfInBounds_toArray, List.set_cons_zero, List.set_cons_succ]
  refine any_take (i := 3) (some 37) (.int .i64 nd) rfl rfl (by kernel_rfl) (by kernel_rfl) (by kernel_rfl) (fun _ _ _ h => h) rfl (fun W hSw => ?_) (S0) ?_
  · (try dsimp only at hSw); go_simp <;> with_reducible rfl
  try simp only [Act.put, List.setIfInBounds_toArray, List.set_cons_zero, List.set_cons_succ]
  refine any_take (i := 5) (some 39) (.agg #[.int .i64 nd, .int .i64 (s + 1), .int .i64 (t + 1), .int .i64 kd, .int .i64 pa, .int .i64 a, .int .i64 b9]) rfl rfl (by kernel_rfl) (by kernel_rfl) (by kernel_rfl) (fun _ _ _ h => h) rfl (fun W hSw => ?_) (S0) ?_
  · (try dsimp only at hSw); go_simp <;> with_reducible rfl
  try simp only [Act.put, List.setIfInBounds_toArray, List.set_cons_zero, List.set_cons_succ]
  refine wpAnyH_ready (rs := [1, 6]) (by kernel_rfl) (by simp) ?_
  refine (AllReadyH.cons rfl (fun K hK => ?_) (AllReadyH.cons rfl (fun K hK => ?_) AllReadyH.nil))
  · skip
    go_simp
    go_at_call 34
    refine (cloneEvent_any _ B A c l hl (Nat.le_trans hB (bthen HB4.out S0.2).size) (HS.out.later hB (bthen HB4.out S0.2))).mono ?_
    rintro e v1 ⟨A1, c1, rfl, hov1, hb8⟩
    have Sv1 : (fun W : World => (W.cell? ⟨w3.heap.size, 0, none⟩ = some (.int .i64 nd) ∧ W.cell? ⟨w3.heap.size, 1, none⟩ = some (.int .i64 (s + 1)) ∧ W.cell? ⟨w3.heap.size, 2, none⟩ = some (.int .i64 (t + 1)) ∧ W.cell? ⟨w3.heap.size, 3, none⟩ = some (.int .i64 kd) ∧ W.cell? ⟨w3.heap.size, 4, none⟩ = some (.int .i64 pa) ∧ W.cell? ⟨w3.heap.size, 5, none⟩ = some (.int .i64 a) ∧ W.cell? ⟨w3.heap.size, 6, none⟩ = some (.int .i64 b9)) ∧ Below w4.heap.size w4 W) v1 := ⟨⟨(bold hb8 _ _ (Nat.lt_of_lt_of_le la S0.2.size)).trans S0.1.1, (bold hb8 _ _ (Nat.lt_of_lt_of_le la S0.2.size)).trans S0.1.2.1, (bold hb8 _ _ (Nat.lt_of_lt_of_le la S0.2.size)).trans S0.1.2.2.1, (bold hb8 _ _ (Nat.lt_of_lt_of_le la S0.2.size)).trans S0.1.2.2.2.1, (bold hb8 _ _ (Nat.lt_of_lt_of_le la S0.2.size)).trans S0.1.2.2.2.2.1, (bold hb8 _ _ (Nat.lt_of_lt_of_le la S0.2.size)).trans S0.1.2.2.2.2.2.1, (bold hb8 _ _ (Nat.lt_of_lt_of_le la S0.2.size)).trans S0.1.2.2.2.2.2.2⟩, bthen S0.2 hb8⟩
    have hzv1 := hb8.size
    clear hb8
    go_wp2_with fail
    refine hK.out _ _ Sv1 (fun _ => ?_)
    clear hK K
    try simp only [Act.put, List.setIfInBounds_toArray, List.set_cons_zero, List.set_cons_succ]
    have hofirst := hov1
    refine wpAnyH_ready (rs := [4, 6]) (by kernel_rfl) (by simp) ?_
    refine (AllReadyH.cons rfl (fun K hK => ?_) (AllReadyH.cons rfl (fun K hK => ?_) AllReadyH.nil))
    · skip
      go_simp
      go_at_call 38
      refine (endE_any _ B A c l nd hl (Nat.le_trans hB (bthen HB4.out Sv1.2).size) (HS.out.later hB (bthen HB4.out Sv1.2)) HQ.out).mono ?_
      rintro e v2 ⟨rfl, hb8⟩
      rw [HAT.out]
      have Sv2 : (fun W : World => (W.cell? ⟨w3.heap.size, 0, none⟩ = some (.int .i64 nd) ∧ W.cell? ⟨w3.heap.size, 1, none⟩ = some (.int .i64 (s + 1)) ∧ W.cell? ⟨w3.heap.size, 2, none⟩ = some (.int .i64 (t + 1)) ∧ W.cell? ⟨w3.heap.size, 3, none⟩ = some (.int .i64 kd) ∧ W.cell? ⟨w3.heap.size, 4, none⟩ = some (.int .i64 pa) ∧ W.cell? ⟨w3.heap.size, 5, none⟩ = some (.int .i64 a) ∧ W.cell? ⟨w3.heap.size, 6, none⟩ = some (.int .i64 b9)) ∧ Below w4.heap.size w4 W) v2 := ⟨⟨(bold hb8 _ _ (Nat.lt_of_lt_of_le la Sv1.2.size)).trans Sv1.1.1, (bold hb8 _ _ (Nat.lt_of_lt_of_le la Sv1.2.size)).trans Sv1.1.2.1, (bold hb8 _ _ (Nat.lt_of_lt_of_le la Sv1.2.size)).trans Sv1.1.2.2.1, (bold hb8 _ _ (Nat.lt_of_lt_of_le la Sv1.2.size)).trans Sv1.1.2.2.2.1, (bold hb8 _ _ (Nat.lt_of_lt_of_le la Sv1.2.size)).trans Sv1.1.2.2.2.2.1, (bold hb8 _ _ (Nat.lt_of_lt_of_le la Sv1.2.size)).trans Sv1.1.2.2.2.2.2.1, (bold hb8 _ _ (Nat.lt_of_lt_of_le la Sv1.2.size)).trans Sv1.1.2.2.2.2.2.2⟩, bthen Sv1.2 hb8⟩
      have hov2 := own_kept hov1 hb8
      have hzv2 := hb8.size
      clear hb8
      go_wp2_with fail
      refine hK.out _ _ Sv2 (fun _ => ?_)
      clear hK K
      try simp only [Act.put, List.setIfInBounds_toArray, List.set_cons_zero, List.set_cons_succ]
      refine wpAnyH_ready (rs := [6]) (by kernel_rfl) (by simp) ?_
      refine (AllReadyH.cons rfl (fun K hK => ?_) AllReadyH.nil)
      go_simp
      try go_wp2_with fail
      generalize hX9 : (v2.alloc (.cells #[.int .i64 nd, .int .i64 (s + 1), .int .i64 (t + 1), .int .i64 kd, .int .i64 pa, .int .i64 a, .int .i64 b9] 25)) = v3
      have hb8 : Below v2.heap.size v2 v3 := by rw [← hX9]; exact balloc _ _
      have hvv3 : Has v3 v2.heap.size 25 #[.int .i64 nd, .int .i64 (s + 1), .int .i64 (t + 1), .int .i64 kd, .int .i64 pa, .int .i64 a, .int .i64 b9] := by rw [← hX9]; exact has_new _ _ _
      clear hX9
      have Sv3 : (fun W : World => (W.cell? ⟨w3.heap.size, 0, none⟩ = some (.int .i64 nd) ∧ W.cell? ⟨w3.heap.size, 1, none⟩ = some (.int .i64 (s + 1)) ∧ W.cell? ⟨w3.heap.size, 2, none⟩ = some (.int .i64 (t + 1)) ∧ W.cell? ⟨w3.heap.size, 3, none⟩ = some (.int .i64 kd) ∧ W.cell? ⟨w3.heap.size, 4, none⟩ = some (.int .i64 pa) ∧ W.cell? ⟨w3.heap.size, 5, none⟩ = some (.int .i64 a) ∧ W.cell? ⟨w3.heap.size, 6, none⟩ = some (.int .i64 b9)) ∧ Below w4.heap.size w4 W) v3 := ⟨⟨(bold hb8 _ _ (Nat.lt_of_lt_of_le la Sv2.2.size)).trans Sv2.1.1, (bold hb8 _ _ (Nat.lt_of_lt_of_le la Sv2.2.size)).trans Sv2.1.2.1, (bold hb8 _ _ (Nat.lt_of_lt_of_le la Sv2.2.size)).trans Sv2.1.2.2.1, (bold hb8 _ _ (Nat.lt_of_lt_of_le la Sv2.2.size)).trans Sv2.1.2.2.2.1, (bold hb8 _ _ (Nat.lt_of_lt_of_le la Sv2.2.size)).trans Sv2.1.2.2.2.2.1, (bold hb8 _ _ (Nat.lt_of_lt_of_le la Sv2.2.size)).trans Sv2.1.2.2.2.2.2.1, (bold hb8 _ _ (Nat.lt_of_lt_of_le la Sv2.2.size)).trans Sv2.1.2.2.2.2.2.2⟩, bthen Sv2.2 hb8⟩
      have hov3 := own_kept hov2 hb8
      refine hK.out _ _ Sv3 (fun _ => ?_)
      clear hK K hb8
      try simp only [Act.put, List.setIfInBounds_toArray, List.set_cons_zero, List.set_cons_succ]
      refine wpAnyH_ready (rs := [7]) (by kernel_rfl) (by simp) ?_
      refine (AllReadyH.cons rfl (fun K hK => ?_) AllReadyH.nil)
      have hne : ∀ g, A1 = some ⟨g, 0, none⟩ → v2.heap.size ≠ g := by
        rintro g rfl
        obtain ⟨_, cu, hcu⟩ := own_has hofirst g rfl; have h2 := has_lt hcu
        have h3 : v1.heap.size ≤ v2.heap.size := hzv2
        intro e9; subst e9; exact absurd (Nat.lt_of_lt_of_le h2 h3) (Nat.lt_irrefl _)
      go_simp
      go_at_call 37
      refine (insE_any _ (w4.drew.heap.size) A1 c1 l (v2.heap.size) nd (s + 1) (t + 1) kd pa a b9 hov3 (Nat.le_of_lt_succ (Nat.lt_succ_of_le (Nat.le_trans (Nat.le_trans (hzv1) hzv2) (show v2.heap.size ≤ v3.heap.size from Nat.le_of_lt (has_lt hvv3))))) (by omega) hvv3 at9 hal hne).mono ?_
      rintro e v4 hans
      rw [HRE.out] at hans
      obtain ⟨A5, c5, hc5, rfl, hor, hb8⟩ := hans
      have hbq : Below w4.heap.size w4 v4 := Sv3.2.trans (hb8.mono (S0.2.size))
      have Sv4 : (fun W : World => (W.cell? ⟨w3.heap.size, 0, none⟩ = some (.int .i64 nd) ∧ W.cell? ⟨w3.heap.size, 1, none⟩ = some (.int .i64 (s + 1)) ∧ W.cell? ⟨w3.heap.size, 2, none⟩ = some (.int .i64 (t + 1)) ∧ W.cell? ⟨w3.heap.size, 3, none⟩ = some (.int .i64 kd) ∧ W.cell? ⟨w3.heap.size, 4, none⟩ = some (.int .i64 pa) ∧ W.cell? ⟨w3.heap.size, 5, none⟩ = some (.int .i64 a) ∧ W.cell? ⟨w3.heap.size, 6, none⟩ = some (.int .i64 b9)) ∧ Below w4.heap.size w4 W) v4 := ⟨⟨((hbq).cell (p := ⟨w3.heap.size, 0, none⟩) la).trans S0.1.1, ((hbq).cell (p := ⟨w3.heap.size, 1, none⟩) la).trans S0.1.2.1, ((hbq).cell (p := ⟨w3.heap.size, 2, none⟩) la).trans S0.1.2.2.1, ((hbq).cell (p := ⟨w3.heap.size, 3, none⟩) la).trans S0.1.2.2.2.1, ((hbq).cell (p := ⟨w3.heap.size, 4, none⟩) la).trans S0.1.2.2.2.2.1, ((hbq).cell (p := ⟨w3.heap.size, 5, none⟩) la).trans S0.1.2.2.2.2.2.1, ((hbq).cell (p := ⟨w3.heap.size, 6, none⟩) la).trans S0.1.2.2.2.2.2.2⟩, hbq⟩
      clear hb8 hne
      go_wp2_with fail
      refine hK.out _ _ Sv4 (fun _ => ?_)
      clear hK K
      try simp only [Act.put, List.setIfInBounds_toArray, List.set_cons_zero, List.set_cons_succ]
      refine any_take (i := 8) (some 15) (.slice A5 RR.length c5) rfl rfl (by kernel_rfl) (by kernel_rfl) (by kernel_rfl) (fun _ _ _ h => h) rfl (fun W hSw => ?_) (Sv4) ?_
      · (try dsimp only at hSw); go_simp <;> with_reducible rfl
      try simp only [Act.put, List.setIfInBounds_toArray, List.set_cons_zero, List.set_cons_succ]
      refine wpAnyH_done (by kernel_rfl) ?_ _
      have HB5 := Lib.hid (bthen HB4.out hbq); have HOR := Lib.hid (hor.more ((bthen HB4.out S0.2).size)); clear hbq hor
      go_wp2_with (first | (go_at_call 14; refine (jrnI_any _ v4.heap.size A5 c5 RR (by unfold maxLen; omega) (Nat.le_refl _) HOR.out.ev).mono ?_; rintro e u1 ⟨rfl, hu1⟩; rw [HV.out]) | (go_at_call 34; refine (cloneEvent_any _ B A c l hl (Nat.le_trans hB (bthen HB5.out hu1).size) (HS.out.later hB (bthen HB5.out hu1))).mono ?_; rintro e u2 ⟨A6, c6, rfl, hown6, hu2⟩))
      go_ret2
      rw [addE_yes HQ.out HQ2.out, HRR.out]
      exact ⟨A5, c5, hc5, rfl, HOR.out.below hu1, bthen HB5.out hu1⟩
    · skip
      go_simp
      try go_wp2_with fail
      generalize hX9 : (v1.alloc (.cells #[.int .i64 nd, .int .i64 (s + 1), .int .i64 (t + 1), .int .i64 kd, .int .i64 pa, .int .i64 a, .int .i64 b9] 25)) = v5
      have hb8 : Below v1.heap.size v1 v5 := by rw [← hX9]; exact balloc _ _
      have hvv5 : Has v5 v1.heap.size 25 #[.int .i64 nd, .int .i64 (s + 1), .int .i64 (t + 1), .int .i64 kd, .int .i64 pa, .int .i64 a, .int .i64 b9] := by rw [← hX9]; exact has_new _ _ _
      clear hX9
      have Sv5 : (fun W : World => (W.cell? ⟨w3.heap.size, 0, none⟩ = some (.int .i64 nd) ∧ W.cell? ⟨w3.heap.size, 1, none⟩ = some (.int .i64 (s + 1)) ∧ W.cell? ⟨w3.heap.size, 2, none⟩ = some (.int .i64 (t + 1)) ∧ W.cell? ⟨w3.heap.size, 3, none⟩ = some (.int .i64 kd) ∧ W.cell? ⟨w3.heap.size, 4, none⟩ = some (.int .i64 pa) ∧ W.cell? ⟨w3.heap.size, 5, none⟩ = some (.int .i64 a) ∧ W.cell? ⟨w3.heap.size, 6, none⟩ = some (.int .i64 b9)) ∧ Below w4.heap.size w4 W) v5 := ⟨⟨(bold hb8 _ _ (Nat.lt_of_lt_of_le la Sv1.2.size)).trans Sv1.1.1, (bold hb8 _ _ (Nat.lt_of_lt_of_le la Sv1.2.size)).trans Sv1.1.2.1, (bold hb8 _ _ (Nat.lt_of_lt_of_le la Sv1.2.size)).trans Sv1.1.2.2.1, (bold hb8 _ _ (Nat.lt_of_lt_of_le la Sv1.2.size)).trans Sv1.1.2.2.2.1, (bold hb8 _ _ (Nat.lt_of_lt_of_le la Sv1.2.size)).trans Sv1.1.2.2.2.2.1, (bold hb8 _ _ (Nat.lt_of_lt_of_le la Sv1.2.size)).trans Sv1.1.2.2.2.2.2.1, (bold hb8 _ _ (Nat.lt_of_lt_of_le la Sv1.2.size)).trans Sv1.1.2.2.2.2.2.2⟩, bthen Sv1.2 hb8⟩
      have hov5 := own_kept hov1 hb8
      refine hK.out _ _ Sv5 (fun _ => ?_)
      clear hK K hb8
      try simp only [Act.put, List.setIfInBounds_toArray, List.set_cons_zero, List.set_cons_succ]
      refine wpAnyH_ready (rs := [4]) (by kernel_rfl) (by simp) ?_
      refine (AllReadyH.cons rfl (fun K hK => ?_) AllReadyH.nil)
      go_simp
      go_at_call 38
      refine (endE_any _ B A c l nd hl (Nat.le_trans hB (bthen HB4.out Sv5.2).size) (HS.out.later hB (bthen HB4.out Sv5.2)) HQ.out).mono ?_
      rintro e v6 ⟨rfl, hb8⟩
      rw [HAT.out]
      have Sv6 : (fun W : World => (W.cell? ⟨w3.heap.size, 0, none⟩ = some (.int .i64 nd) ∧ W.cell? ⟨w3.heap.size, 1, none⟩ = some (.int .i64 (s + 1)) ∧ W.cell? ⟨w3.heap.size, 2, none⟩ = some (.int .i64 (t + 1)) ∧ W.cell? ⟨w3.heap.size, 3, none⟩ = some (.int .i64 kd) ∧ W.cell? ⟨w3.heap.size, 4, none⟩ = some (.int .i64 pa) ∧ W.cell? ⟨w3.heap.size, 5, none⟩ = some (.int .i64 a) ∧ W.cell? ⟨w3.heap.size, 6, none⟩ = some (.int .i64 b9)) ∧ Below w4.heap.size w4 W) v6 := ⟨⟨(bold hb8 _ _ (Nat.lt_of_lt_of_le la Sv5.2.size)).trans Sv5.1.1, (bold hb8 _ _ (Nat.lt_of_lt_of_le la Sv5.2.size)).trans Sv5.1.2.1, (bold hb8 _ _ (Nat.lt_of_lt_of_le la Sv5.2.size)).trans Sv5.1.2.2.1, (bold hb8 _ _ (Nat.lt_of_lt_of_le la Sv5.2.size)).trans Sv5.1.2.2.2.1, (bold hb8 _ _ (Nat.lt_of_lt_of_le la Sv5.2.size)).trans Sv5.1.2.2.2.2.1, (bold hb8 _ _ (Nat.lt_of_lt_of_le la Sv5.2.size)).trans Sv5.1.2.2.2.2.2.1, (bold hb8 _ _ (Nat.lt_of_lt_of_le la Sv5.2.size)).trans Sv5.1.2.2.2.2.2.2⟩, bthen Sv5.2 hb8⟩
      have hov6 := own_kept hov5 hb8
      have hvv6 := has_call hvv5 hb8
      have hzv6 := hb8.size
      clear hb8
      go_wp2_with fail
      refine hK.out _ _ Sv6 (fun _ => ?_)
      clear hK K
      try simp only [Act.put, List.setIfInBounds_toArray, List.set_cons_zero, List.set_cons_succ]
      refine wpAnyH_ready (rs := [7]) (by kernel_rfl) (by simp) ?_
      refine (AllReadyH.cons rfl (fun K hK => ?_) AllReadyH.nil)
      have hne : ∀ g, A1 = some ⟨g, 0, none⟩ → v1.heap.size ≠ g := by
        rintro g rfl
        obtain ⟨_, cu, hcu⟩ := own_has hofirst g rfl; have h2 := has_lt hcu
        have h3 : v1.heap.size ≤ v1.heap.size := Nat.le_refl _
        intro e9; subst e9; exact absurd (Nat.lt_of_lt_of_le h2 h3) (Nat.lt_irrefl _)
      go_simp
      go_at_call 37
      refine (insE_any _ (w4.drew.heap.size) A1 c1 l (v1.heap.size) nd (s + 1) (t + 1) kd pa a b9 hov6 (Nat.le_of_lt_succ (Nat.lt_succ_of_le (Nat.le_trans (Nat.le_trans (hzv1) (show v1.heap.size ≤ v5.heap.size from Nat.le_of_lt (has_lt hvv5))) hzv6))) (by omega) hvv6 at9 hal hne).mono ?_
      rintro e v7 hans
      rw [HRE.out] at hans
      obtain ⟨A5, c5, hc5, rfl, hor, hb8⟩ := hans
      have hbq : Below w4.heap.size w4 v7 := Sv6.2.trans (hb8.mono (S0.2.size))
      have Sv7 : (fun W : World => (W.cell? ⟨w3.heap.size, 0, none⟩ = some (.int .i64 nd) ∧ W.cell? ⟨w3.heap.size, 1, none⟩ = some (.int .i64 (s + 1)) ∧ W.cell? ⟨w3.heap.size, 2, none⟩ = some (.int .i64 (t + 1)) ∧ W.cell? ⟨w3.heap.size, 3, none⟩ = some (.int .i64 kd) ∧ W.cell? ⟨w3.heap.size, 4, none⟩ = some (.int .i64 pa) ∧ W.cell? ⟨w3.heap.size, 5, none⟩ = some (.int .i64 a) ∧ W.cell? ⟨w3.heap.size, 6, none⟩ = some (.int .i64 b9)) ∧ Below w4.heap.size w4 W) v7 := ⟨⟨((hbq).cell (p := ⟨w3.heap.size, 0, none⟩) la).trans S0.1.1, ((hbq).cell (p := ⟨w3.heap.size, 1, none⟩) la).trans S0.1.2.1, ((hbq).cell (p := ⟨w3.heap.size, 2, none⟩) la).trans S0.1.2.2.1, ((hbq).cell (p := ⟨w3.heap.size, 3, none⟩) la).trans S0.1.2.2.2.1, ((hbq).cell (p := ⟨w3.heap.size, 4, none⟩) la).trans S0.1.2.2.2.2.1, ((hbq).cell (p := ⟨w3.heap.size, 5, none⟩) la).trans S0.1.2.2.2.2.2.1, ((hbq).cell (p := ⟨w3.heap.size, 6, none⟩) la).trans S0.1.2.2.2.2.2.2⟩, hbq⟩
      clear hb8 hne
      go_wp2_with fail
      refine hK.out _ _ Sv7 (fun _ => ?_)
      clear hK K
      try simp only [Act.put, List.setIfInBounds_toArray, List.set_cons_zero, List.set_cons_succ]
      refine any_take (i := 8) (some 15) (.slice A5 RR.length c5) rfl rfl (by kernel_rfl) (by kernel_rfl) (by kernel_rfl) (fun _ _ _ h => h) rfl (fun W hSw => ?_) (Sv7) ?_
      · (try dsimp only at hSw); go_simp <;> with_reducible rfl
      try simp only [Act.put, List.setIfInBounds_toArray, List.set_cons_zero, List.set_cons_succ]
      refine wpAnyH_done (by kernel_rfl) ?_ _
      have HB5 := Lib.hid (bthen HB4.out hbq); have HOR := Lib.hid (hor.more ((bthen HB4.out S0.2).size)); clear hbq hor
      go_wp2_with (first | (go_at_call 14; refine (jrnI_any _ v7.heap.size A5 c5 RR (by unfold maxLen; omega) (Nat.le_refl _) HOR.out.ev).mono ?_; rintro e u1 ⟨rfl, hu1⟩; rw [HV.out]) | (go_at_call 34; refine (cloneEvent_any _ B A c l hl (Nat.le_trans hB (bthen HB5.out hu1).size) (HS.out.later hB (bthen HB5.out hu1))).mono ?_; rintro e u2 ⟨A6, c6, rfl, hown6, hu2⟩))
      go_ret2
      rw [addE_yes HQ.out HQ2.out, HRR.out]
      exact ⟨A5, c5, hc5, rfl, HOR.out.below hu1, bthen HB5.out hu1⟩
  · skip
    go_simp
    try go_wp2_with fail
    generalize hX9 : (w4.alloc (.cells #[.int .i64 nd, .int .i64 (s + 1), .int .i64 (t + 1), .int .i64 kd, .int .i64 pa, .int .i64 a, .int .i64 b9] 25)).drew = v8
    have hb8 : Below w4.drew.heap.size w4.drew v8 := by rw [← hX9]; exact balloc _ _
    have hvv8 : Has v8 w4.heap.size 25 #[.int .i64 nd, .int .i64 (s + 1), .int .i64 (t + 1), .int .i64 kd, .int .i64 pa, .int .i64 a, .int .i64 b9] := by rw [← hX9]; exact has_new _ _ _
    clear hX9
    have Sv8 : (fun W : World => (W.cell? ⟨w3.heap.size, 0, none⟩ = some (.int .i64 nd) ∧ W.cell? ⟨w3.heap.size, 1, none⟩ = some (.int .i64 (s + 1)) ∧ W.cell? ⟨w3.heap.size, 2, none⟩ = some (.int .i64 (t + 1)) ∧ W.cell? ⟨w3.heap.size, 3, none⟩ = some (.int .i64 kd) ∧ W.cell? ⟨w3.heap.size, 4, none⟩ = some (.int .i64 pa) ∧ W.cell? ⟨w3.heap.size, 5, none⟩ = some (.int .i64 a) ∧ W.cell? ⟨w3.heap.size, 6, none⟩ = some (.int .i64 b9)) ∧ Below w4.heap.size w4 W) v8 := ⟨⟨(bold hb8 _ _ (Nat.lt_of_lt_of_le la S0.2.size)).trans S0.1.1, (bold hb8 _ _ (Nat.lt_of_lt_of_le la S0.2.size)).trans S0.1.2.1, (bold hb8 _ _ (Nat.lt_of_lt_of_le la S0.2.size)).trans S0.1.2.2.1, (bold hb8 _ _ (Nat.lt_of_lt_of_le la S0.2.size)).trans S0.1.2.2.2.1, (bold hb8 _ _ (Nat.lt_of_lt_of_le la S0.2.size)).trans S0.1.2.2.2.2.1, (bold hb8 _ _ (Nat.lt_of_lt_of_le la S0.2.size)).trans S0.1.2.2.2.2.2.1, (bold hb8 _ _ (Nat.lt_of_lt_of_le la S0.2.size)).trans S0.1.2.2.2.2.2.2⟩, bthen S0.2 hb8⟩
    refine hK.out _ _ Sv8 (fun _ => ?_)
    clear hK K hb8
    try simp only [Act.put, List.setIfInBounds_toArray, List.set_cons_zero, List.set_cons_succ]
    have hvfirst : Has v8 w4.heap.size 25 #[.int .i64 nd, .int .i64 (s + 1), .int .i64 (t + 1), .int .i64 kd, .int .i64 pa, .int .i64 a, .int .i64 b9] := hvv8
    refine wpAnyH_ready (rs := [1]) (by kernel_rfl) (by simp) ?_
    refine (AllReadyH.cons rfl (fun K hK => ?_) AllReadyH.nil)
    go_simp
    go_at_call 34
    refine (cloneEvent_any _ B A c l hl (Nat.le_trans hB (bthen HB4.out Sv8.2).size) (HS.out.later hB (bthen HB4.out Sv8.2))).mono ?_
    rintro e v9 ⟨A1, c1, rfl, hov9, hb8⟩
    have Sv9 : (fun W : World => (W.cell? ⟨w3.heap.size, 0, none⟩ = some (.int .i64 nd) ∧ W.cell? ⟨w3.heap.size, 1, none⟩ = some (.int .i64 (s + 1)) ∧ W.cell? ⟨w3.heap.size, 2, none⟩ = some (.int .i64 (t + 1)) ∧ W.cell? ⟨w3.heap.size, 3, none⟩ = some (.int .i64 kd) ∧ W.cell? ⟨w3.heap.size, 4, none⟩ = some (.int .i64 pa) ∧ W.cell? ⟨w3.heap.size, 5, none⟩ = some (.int .i64 a) ∧ W.cell? ⟨w3.heap.size, 6, none⟩ = some (.int .i64 b9)) ∧ Below w4.heap.size w4 W) v9 := ⟨⟨(bold hb8 _ _ (Nat.lt_of_lt_of_le la Sv8.2.size)).trans Sv8.1.1, (bold hb8 _ _ (Nat.lt_of_lt_of_le la Sv8.2.size)).trans Sv8.1.2.1, (bold hb8 _ _ (Nat.lt_of_lt_of_le la Sv8.2.size)).trans Sv8.1.2.2.1, (bold hb8 _ _ (Nat.lt_of_lt_of_le la Sv8.2.size)).trans Sv8.1.2.2.2.1, (bold hb8 _ _ (Nat.lt_of_lt_of_le la Sv8.2.size)).trans Sv8.1.2.2.2.2.1, (bold hb8 _ _ (Nat.lt_of_lt_of_le la Sv8.2.size)).trans Sv8.1.2.2.2.2.2.1, (bold hb8 _ _ (Nat.lt_of_lt_of_le la Sv8.2.size)).trans Sv8.1.2.2.2.2.2.2⟩, bthen Sv8.2 hb8⟩
    have hvv9 := has_call hvv8 hb8
    have hzv9 := hb8.size
    clear hb8
    go_wp2_with fail
    refine hK.out _ _ Sv9 (fun _ => ?_)
    clear hK K
    try simp only [Act.put, List.setIfInBounds_toArray, List.set_cons_zero, List.set_cons_succ]
    refine wpAnyH_ready (rs := [4]) (by kernel_rfl) (by simp) ?_
    refine (AllReadyH.cons rfl (fun K hK => ?_) AllReadyH.nil)
    go_simp
    go_at_call 38
    refine (endE_any _ B A c l nd hl (Nat.le_trans hB (bthen HB4.out Sv9.2).size) (HS.out.later hB (bthen HB4.out Sv9.2)) HQ.out).mono ?_
    rintro e v10 ⟨rfl, hb8⟩
    rw [HAT.out]
    have Sv10 : (fun W : World => (W.cell? ⟨w3.heap.size, 0, none⟩ = some (.int .i64 nd) ∧ W.cell? ⟨w3.heap.size, 1, none⟩ = some (.int .i64 (s + 1)) ∧ W.cell? ⟨w3.heap.size, 2, none⟩ = some (.int .i64 (t + 1)) ∧ W.cell? ⟨w3.heap.size, 3, none⟩ = some (.int .i64 kd) ∧ W.cell? ⟨w3.heap.size, 4, none⟩ = some (.int .i64 pa) ∧ W.cell? ⟨w3.heap.size, 5, none⟩ = some (.int .i64 a) ∧ W.cell? ⟨w3.heap.size, 6, none⟩ = some (.int .i64 b9)) ∧ Below w4.heap.size w4 W) v10 := ⟨⟨(bold hb8 _ _ (Nat.lt_of_lt_of_le la Sv9.2.size)).trans Sv9.1.1, (bold hb8 _ _ (Nat.lt_of_lt_of_le la Sv9.2.size)).trans Sv9.1.2.1, (bold hb8 _ _ (Nat.lt_of_lt_of_le la Sv9.2.size)).trans Sv9.1.2.2.1, (bold hb8 _ _ (Nat.lt_of_lt_of_le la Sv9.2.size)).trans Sv9.1.2.2.2.1, (bold hb8 _ _ (Nat.lt_of_lt_of_le la Sv9.2.size)).trans Sv9.1.2.2.2.2.1, (bold hb8 _ _ (Nat.lt_of_lt_of_le la Sv9.2.size)).trans Sv9.1.2.2.2.2.2.1, (bold hb8 _ _ (Nat.lt_of_lt_of_le la Sv9.2.size)).trans Sv9.1.2.2.2.2.2.2⟩, bthen Sv9.2 hb8⟩
    have hov10 := own_kept hov9 hb8
    have hvv10 := has_call hvv9 hb8
    have hzv10 := hb8.size
    clear hb8
    go_wp2_with fail
    refine hK.out _ _ Sv10 (fun _ => ?_)
    clear hK K
    try simp only [Act.put, List.setIfInBounds_toArray, List.set_cons_zero, List.set_cons_succ]
    refine wpAnyH_ready (rs := [7]) (by kernel_rfl) (by simp) ?_
    refine (AllReadyH.cons rfl (fun K hK => ?_) AllReadyH.nil)
    have hne : ∀ g, A1 = some ⟨g, 0, none⟩ → w4.heap.size ≠ g := by
      rintro g rfl
      have h1 := (own_has hov10 g rfl).1; have h2 := has_lt hvfirst
      intro e9; subst e9; exact absurd (Nat.lt_of_lt_of_le h2 h1) (Nat.lt_irrefl _)
    go_simp
    go_at_call 37
    refine (insE_any _ (v8.heap.size) A1 c1 l (w4.heap.size) nd (s + 1) (t + 1) kd pa a b9 hov10 (Nat.le_of_lt_succ (Nat.lt_succ_of_le (Nat.le_trans (hzv9) hzv10))) (by omega) hvv10 at9 hal hne).mono ?_
    rintro e v11 hans
    rw [HRE.out] at hans
    obtain ⟨A5, c5, hc5, rfl, hor, hb8⟩ := hans
    have hbq : Below w4.heap.size w4 v11 := Sv10.2.trans (hb8.mono (Sv8.2.size))
    have Sv11 : (fun W : World => (W.cell? ⟨w3.heap.size, 0, none⟩ = some (.int .i64 nd) ∧ W.cell? ⟨w3.heap.size, 1, none⟩ = some (.int .i64 (s + 1)) ∧ W.cell? ⟨w3.heap.size, 2, none⟩ = some (.int .i64 (t + 1)) ∧ W.cell? ⟨w3.heap.size, 3, none⟩ = some (.int .i64 kd) ∧ W.cell? ⟨w3.heap.size, 4, none⟩ = some (.int .i64 pa) ∧ W.cell? ⟨w3.heap.size, 5, none⟩ = some (.int .i64 a) ∧ W.cell? ⟨w3.heap.size, 6, none⟩ = some (.int .i64 b9)) ∧ Below w4.heap.size w4 W) v11 := ⟨⟨((hbq).cell (p := ⟨w3.heap.size, 0, none⟩) la).trans S0.1.1, ((hbq).cell (p := ⟨w3.heap.size, 1, none⟩) la).trans S0.1.2.1, ((hbq).cell (p := ⟨w3.heap.size, 2, none⟩) la).trans S0.1.2.2.1, ((hbq).cell (p := ⟨w3.heap.size, 3, none⟩) la).trans S0.1.2.2.2.1, ((hbq).cell (p := ⟨w3.heap.size, 4, none⟩) la).trans S0.1.2.2.2.2.1, ((hbq).cell (p := ⟨w3.heap.size, 5, none⟩) la).trans S0.1.2.2.2.2.2.1, ((hbq).cell (p := ⟨w3.heap.size, 6, none⟩) la).trans S0.1.2.2.2.2.2.2⟩, hbq⟩
    clear hb8 hne
    go_wp2_with fail
    refine hK.out _ _ Sv11 (fun _ => ?_)
    clear hK K
    try simp only [Act.put, List.setIfInBounds_toArray, List.set_cons_zero, List.set_cons_succ]
    refine any_take (i := 8) (some 15) (.slice A5 RR.length c5) rfl rfl (by kernel_rfl) (by kernel_rfl) (by kernel_rfl) (fun _ _ _ h => h) rfl (fun W hSw => ?_) (Sv11) ?_
    · (try dsimp only at hSw); go_simp <;> with_reducible rfl
    try simp only [Act.put, List.setIfInBounds_toArray, List.set_cons_zero, List.set_cons_succ]
    refine wpAnyH_done (by kernel_rfl) ?_ _
    have HB5 := Lib.hid (bthen HB4.out hbq); have HOR := Lib.hid (hor.more ((bthen HB4.out Sv8.2).size)); clear hbq hor
    go_wp2_with (first | (go_at_call 14; refine (jrnI_any _ v11.heap.size A5 c5 RR (by unfold maxLen; omega) (Nat.le_refl _) HOR.out.ev).mono ?_; rintro e u1 ⟨rfl, hu1⟩; rw [HV.out]) | (go_at_call 34; refine (cloneEvent_any _ B A c l hl (Nat.le_trans hB (bthen HB5.out hu1).size) (HS.out.later hB (bthen HB5.out hu1))).mono ?_; rintro e u2 ⟨A6, c6, rfl, hown6, hu2⟩))
    go_ret2
    rw [addE_yes HQ.out HQ2.out, HRR.out]
    exact ⟨A5, c5, hc5, rfl, HOR.out.below hu1, bthen HB5.out hu1⟩
theorem addP_any (w : World) (B : Nat) (A : Option Addr) (c : Nat) (l : List Ev) (nd kd pa a b9 : Int) (hl : l.length ≤ 1048576) (hB : B ≤ w.heap.size) (hS : evL w B A l) : Calls Try.prog 17 #[.slice A l.length c, .int .i64 nd, .int .i64 kd, .int .i64 pa, .int .i64 a, .int .i64 b9] w (AnsE2 (addE l nd kd pa a b9) w) := by
  cases hq : jrnB l
  · exact addP_bad w B A c l nd kd pa a b9 hl hB hS hq
  cases hq2 : jrnB (insEv l nd kd pa a b9)
  · exact addP_no w B A c l nd kd pa a b9 hl hB hS hq hq2
  · exact addP_yes w B A c l nd kd pa a b9 hl hB hS hq hq2
end Go.Proofs.Ytchphcchpdekoaa
