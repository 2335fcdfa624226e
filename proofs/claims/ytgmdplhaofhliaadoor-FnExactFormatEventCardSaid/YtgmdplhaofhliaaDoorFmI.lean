/- Chapter 8: FormatEvent of the program (gen_fme.py). -/
import Derived.Test.YtgmdplhaofhliaaDoorFmE
namespace Go.Proofs.YtgmdplhaofhliaaDoor
open Go.RowKit
set_option linter.unusedVariables false
set_option maxRecDepth 100000 in
set_option maxHeartbeats 2000000 in
theorem fmeI_bad (w : World) (x0 x1 x2 x3 x4 x5 x6 : Int) (hT : Tab8 w) (he : evB ⟨x0, x1, x2, x3, x4, x5, x6⟩ = false) : Calls Tryd.prog 14 #[.agg #[.int .i64 x0, .int .i64 x1, .int .i64 x2, .int .i64 x3, .int .i64 x4, .int .i64 x5, .int .i64 x6]] w fun e w' => e = .returned (.string (fmE ⟨x0, x1, x2, x3, x4, x5, x6⟩)) ∧ Below w.heap.size w w' := by
  have HE := Lib.hid he; clear he
  go_enter Tryd.func14, Tryd.ntmps14
  go_wp2_with (go_at_call 23; refine (evI_any _ x0 x1 x2 x3 x4 x5 x6).mono ?_; rintro e w1 ⟨rfl, hb1⟩; rw [HE.out])
  go_ret
  exact ⟨by rw [fmE_bad HE.out]; rfl, bthen (balloc _ _) hb1⟩
set_option maxRecDepth 100000 in
set_option maxHeartbeats 8000000 in
theorem fmeI_ext (w : World) (x0 x1 x2 x3 x4 x5 x6 : Int) (hT : Tab8 w) (he : evB ⟨x0, x1, x2, x3, x4, x5, x6⟩ = true) (h2 : x3 = 2) : Calls Tryd.prog 14 #[.agg #[.int .i64 x0, .int .i64 x1, .int .i64 x2, .int .i64 x3, .int .i64 x4, .int .i64 x5, .int .i64 x6]] w fun e w' => e = .returned (.string (fmE ⟨x0, x1, x2, x3, x4, x5, x6⟩)) ∧ Below w.heap.size w w' := by
  have hev := evB_facts he; dsimp only at hev
  obtain ⟨⟨a0, b0⟩, ⟨a1, b1⟩, ⟨a2, b2⟩, ⟨a3, b3⟩, ⟨a4, b4⟩, ⟨a5, b5⟩, a6, b6⟩ := hev
  have HE := Lib.hid he; clear he
  have HT := Lib.hid hT; clear hT
  subst h2
  obtain ⟨F0, hF0⟩ : ∃ F, fmI x0 = F := ⟨_, rfl⟩
  have hn0 := fmI_len x0; rw [hF0] at hn0; have HF0 := Lib.hid hF0; clear hF0
  obtain ⟨F1, hF1⟩ : ∃ F, fmI x1 = F := ⟨_, rfl⟩
  have hn1 := fmI_len x1; rw [hF1] at hn1; have HF1 := Lib.hid hF1; clear hF1
  obtain ⟨F2, hF2⟩ : ∃ F, fmI x2 = F := ⟨_, rfl⟩
  have hn2 := fmI_len x2; rw [hF2] at hn2; have HF2 := Lib.hid hF2; clear hF2
  obtain ⟨F4, hF4⟩ : ∃ F, fmI x4 = F := ⟨_, rfl⟩
  have hn4 := fmI_len x4; rw [hF4] at hn4; have HF4 := Lib.hid hF4; clear hF4
  obtain ⟨F3, hF3⟩ : ∃ F, kindS 2 = F := ⟨_, rfl⟩
  have hn3 := kindS_len 2; rw [hF3] at hn3; have HF3 := Lib.hid hF3; clear hF3
  obtain ⟨T1, hT1⟩ : ∃ T, F0 ++ (⟨#[46]⟩ : ByteArray) = T := ⟨_, rfl⟩
  have zT1 : T1.size ≤ 22 := by rw [← hT1, cat1]; omega
  have HT1 := Lib.hid hT1; clear hT1
  obtain ⟨T2, hT2⟩ : ∃ T, T1 ++ F1 = T := ⟨_, rfl⟩
  have zT2 : T2.size ≤ 43 := by rw [← hT2, cat_len]; omega
  have HT2 := Lib.hid hT2; clear hT2
  obtain ⟨T3, hT3⟩ : ∃ T, T2 ++ (⟨#[64]⟩ : ByteArray) = T := ⟨_, rfl⟩
  have zT3 : T3.size ≤ 44 := by rw [← hT3, cat1]; omega
  have HT3 := Lib.hid hT3; clear hT3
  obtain ⟨T4, hT4⟩ : ∃ T, T3 ++ F2 = T := ⟨_, rfl⟩
  have zT4 : T4.size ≤ 65 := by rw [← hT4, cat_len]; omega
  have HT4 := Lib.hid hT4; clear hT4
  obtain ⟨T5, hT5⟩ : ∃ T, T4 ++ (⟨#[32]⟩ : ByteArray) = T := ⟨_, rfl⟩
  have zT5 : T5.size ≤ 66 := by rw [← hT5, cat1]; omega
  have HT5 := Lib.hid hT5; clear hT5
  obtain ⟨T6, hT6⟩ : ∃ T, T5 ++ F3 = T := ⟨_, rfl⟩
  have zT6 : T6.size ≤ 74 := by rw [← hT6, cat_len]; omega
  have HT6 := Lib.hid hT6; clear hT6
  obtain ⟨T7, hT7⟩ : ∃ T, T6 ++ (⟨#[32]⟩ : ByteArray) = T := ⟨_, rfl⟩
  have zT7 : T7.size ≤ 75 := by rw [← hT7, cat1]; omega
  have HT7 := Lib.hid hT7; clear hT7
  obtain ⟨T8, hT8⟩ : ∃ T, T7 ++ F4 = T := ⟨_, rfl⟩
  have zT8 : T8.size ≤ 96 := by rw [← hT8, cat_len]; omega
  have HT8 := Lib.hid hT8; clear hT8
  skip
  have hend : fmE ⟨x0, x1, x2, 2, x4, x5, x6⟩ = T8 := by rw [fmE_ext HE.out rfl]; unfold fmX; dsimp only; rw [HF0.out, HT1.out, HF1.out, HT2.out, HT3.out, HF2.out, HT4.out, HT5.out, HF3.out, HT6.out, HT7.out, HF4.out, HT8.out]
  have HEND := Lib.hid hend; clear hend
  go_enter Tryd.func14, Tryd.ntmps14
  go_wp2_with (go_at_call 23; refine (evI_any _ x0 x1 x2 2 x4 x5 x6).mono ?_; rintro e w1 ⟨rfl, hb1⟩; rw [HE.out])
  have za := has_call (has_new w 34 #[.int .i64 x0, .int .i64 x1, .int .i64 x2, .int .i64 2, .int .i64 x4, .int .i64 x5, .int .i64 x6]) hb1
  have hb := bthen (balloc w (.cells #[.int .i64 x0, .int .i64 x1, .int .i64 x2, .int .i64 2, .int .i64 x4, .int .i64 x5, .int .i64 x6] 34)) hb1
  have HT1w := Lib.hid (HT.out.below hb)
  have HB1 := Lib.hid hb; clear hb1 hb
  have la := has_lt za
  have q0 := has_cell za 0 rfl; have q1 := has_cell za 1 rfl; have q2 := has_cell za 2 rfl; have q3 := has_cell za 3 rfl; have q4 := has_cell za 4 rfl; have q5 := has_cell za 5 rfl; have q6 := has_cell za 6 rfl
  clear za
  go_wp2_with fail
  have S0 : (fun W : World => (W.cell? ⟨w.heap.size, 0, none⟩ = some (.int .i64 x0) ∧ W.cell? ⟨w.heap.size, 1, none⟩ = some (.int .i64 x1) ∧ W.cell? ⟨w.heap.size, 2, none⟩ = some (.int .i64 x2) ∧ W.cell? ⟨w.heap.size, 3, none⟩ = some (.int .i64 2) ∧ W.cell? ⟨w.heap.size, 4, none⟩ = some (.int .i64 x4) ∧ W.cell? ⟨w.heap.size, 5, none⟩ = some (.int .i64 x5) ∧ W.cell? ⟨w.heap.size, 6, none⟩ = some (.int .i64 x6)) ∧ Below w1.heap.size w1 W) w1.drew := ⟨⟨q0, q1, q2, q3, q4, q5, q6⟩, (Below.refl _ _).drew⟩
  refine wp_region_held_drew (S := (fun W : World => (W.cell? ⟨w.heap.size, 0, none⟩ = some (.int .i64 x0) ∧ W.cell? ⟨w.heap.size, 1, none⟩ = some (.int .i64 x1) ∧ W.cell? ⟨w.heap.size, 2, none⟩ = some (.int .i64 x2) ∧ W.cell? ⟨w.heap.size, 3, none⟩ = some (.int .i64 2) ∧ W.cell? ⟨w.heap.size, 4, none⟩ = some (.int .i64 x4) ∧ W.cell? ⟨w.heap.size, 5, none⟩ = some (.int .i64 x5) ∧ W.cell? ⟨w.heap.size, 6, none⟩ = some (.int .i64 x6)) ∧ Below w1.heap.size w1 W)) (by kernel_rfl) S0 (fun _ => ?_)
  refine any_take (i := 0) (some 7) (.pointer (some ⟨w.heap.size, 0, none⟩)) rfl rfl (by kernel_rfl) (by kernel_rfl) (by kernel_rfl) (fun _ _ _ h => h) rfl (fun W hSw => ?_) (S0) ?_
  · (try dsimp only at hSw); go_simp <;> with_reducible rfl
  try simp only [Act.put, List.setIfInBounds_toArray, List.set_cons_zero, List.set_cons_succ]
  refine any_take (i := 1) (some 8) (.int .i64 x0) rfl rfl (by kernel_rfl) (by kernel_rfl) (by kernel_rfl) (fun _ _ _ h => h) rfl (fun W hSw => ?_) (S0) ?_
  · (try dsimp only at hSw); go_simp <;> with_reducible rfl
  try simp only [Act.put, List.setIfInBounds_toArray, List.set_cons_zero, List.set_cons_succ]
  refine any_take (i := 4) (some 11) (.pointer (some ⟨w.heap.size, 1, none⟩)) rfl rfl (by kernel_rfl) (by kernel_rfl) (by kernel_rfl) (fun _ _ _ h => h) rfl (fun W hSw => ?_) (S0) ?_
  · (try dsimp only at hSw); go_simp <;> with_reducible rfl
  try simp only [Act.put, List.setIfInBounds_toArray, List.set_cons_zero, List.set_cons_succ]
  refine any_take (i := 5) (some 12) (.int .i64 x1) rfl rfl (by kernel_rfl) (by kernel_rfl) (by kernel_rfl) (fun _ _ _ h => h) rfl (fun W hSw => ?_) (S0) ?_
  · (try dsimp only at hSw); go_simp <;> with_reducible rfl
  try simp only [Act.put, List.setIfInBounds_toArray, List.set_cons_zero, List.set_cons_succ]
  refine any_take (i := 9) (some 16) (.pointer (some ⟨w.heap.size, 2, none⟩)) rfl rfl (by kernel_rfl) (by kernel_rfl) (by kernel_rfl) (fun _ _ _ h => h) rfl (fun W hSw => ?_) (S0) ?_
  · (try dsimp only at hSw); go_simp <;> with_reducible rfl
  try simp only [Act.put, List.setIfInBounds_toArray, List.set_cons_zero, List.set_cons_succ]
  refine any_take (i := 10) (some 17) (.int .i64 x2) rfl rfl (by kernel_rfl) (by kernel_rfl) (by kernel_rfl) (fun _ _ _ h => h) rfl (fun W hSw => ?_) (S0) ?_
  · (try dsimp only at hSw); go_simp <;> with_reducible rfl
  try simp only [Act.put, List.setIfInBounds_toArray, List.set_cons_zero, List.set_cons_succ]
  refine any_take (i := 14) (some 21) (.pointer (some ⟨w.heap.size, 3, none⟩)) rfl rfl (by kernel_rfl) (by kernel_rfl) (by kernel_rfl) (fun _ _ _ h => h) rfl (fun W hSw => ?_) (S0) ?_
  · (try dsimp only at hSw); go_simp <;> with_reducible rfl
  try simp only [Act.put, List.setIfInBounds_toArray, List.set_cons_zero, List.set_cons_succ]
  refine any_take (i := 15) (some 22) (.int .i64 2) rfl rfl (by kernel_rfl) (by kernel_rfl) (by kernel_rfl) (fun _ _ _ h => h) rfl (fun W hSw => ?_) (S0) ?_
  · (try dsimp only at hSw); go_simp <;> with_reducible rfl
  try simp only [Act.put, List.setIfInBounds_toArray, List.set_cons_zero, List.set_cons_succ]
  refine any_take (i := 19) (some 26) (.pointer (some ⟨w.heap.size, 4, none⟩)) rfl rfl (by kernel_rfl) (by kernel_rfl) (by kernel_rfl) (fun _ _ _ h => h) rfl (fun W hSw => ?_) (S0) ?_
  · (try dsimp only at hSw); go_simp <;> with_reducible rfl
  try simp only [Act.put, List.setIfInBounds_toArray, List.set_cons_zero, List.set_cons_succ]
  refine any_take (i := 20) (some 27) (.int .i64 x4) rfl rfl (by kernel_rfl) (by kernel_rfl) (by kernel_rfl) (fun _ _ _ h => h) rfl (fun W hSw => ?_) (S0) ?_
  · (try dsimp only at hSw); go_simp <;> with_reducible rfl
  try simp only [Act.put, List.setIfInBounds_toArray, List.set_cons_zero, List.set_cons_succ]
  refine wpAnyH_ready (rs := [2]) (by kernel_rfl) (by simp) ?_
  refine AllReadyH.cons rfl (fun K hK => ?_) AllReadyH.nil
  go_simp
  go_at_call 24
  refine (fmtP8 _ x0 (by omega) (by omega) (HT1w.out.below S0.2)).mono ?_
  rintro e wa ⟨rfl, hb8⟩
  rw [HF0.out]
  have hb9wa : Below w1.heap.size w1 wa := bthen ((Below.refl _ _).drew : Below w1.heap.size w1 w1.drew) hb8
  have Swa : (fun W : World => (W.cell? ⟨w.heap.size, 0, none⟩ = some (.int .i64 x0) ∧ W.cell? ⟨w.heap.size, 1, none⟩ = some (.int .i64 x1) ∧ W.cell? ⟨w.heap.size, 2, none⟩ = some (.int .i64 x2) ∧ W.cell? ⟨w.heap.size, 3, none⟩ = some (.int .i64 2) ∧ W.cell? ⟨w.heap.size, 4, none⟩ = some (.int .i64 x4) ∧ W.cell? ⟨w.heap.size, 5, none⟩ = some (.int .i64 x5) ∧ W.cell? ⟨w.heap.size, 6, none⟩ = some (.int .i64 x6)) ∧ Below w1.heap.size w1 W) wa := ⟨⟨(bold hb9wa _ _ (la)).trans S0.1.1, (bold hb9wa _ _ (la)).trans S0.1.2.1, (bold hb9wa _ _ (la)).trans S0.1.2.2.1, (bold hb9wa _ _ (la)).trans S0.1.2.2.2.1, (bold hb9wa _ _ (la)).trans S0.1.2.2.2.2.1, (bold hb9wa _ _ (la)).trans S0.1.2.2.2.2.2.1, (bold hb9wa _ _ (la)).trans S0.1.2.2.2.2.2.2⟩, hb9wa⟩
  clear hb8
  go_wp2_with fail
  refine hK.out _ _ Swa (fun _ => ?_)
  clear hK K
  try simp only [Act.put, List.setIfInBounds_toArray, List.set_cons_zero, List.set_cons_succ]
  refine any_take (i := 3) (some 10) (.string T1) rfl rfl (by kernel_rfl) (by kernel_rfl) (by kernel_rfl) (fun _ _ _ h => h) rfl (fun W hSw => ?_) (Swa) ?_
  · (try dsimp only at hSw); go_simp; rw [if_neg (by first | omega | (have := (rfl : (⟨#[46]⟩ : ByteArray).size = 1); omega))]; rw [HT1.out]
  try simp only [Act.put, List.setIfInBounds_toArray, List.set_cons_zero, List.set_cons_succ]
  refine wpAnyH_ready (rs := [6]) (by kernel_rfl) (by simp) ?_
  refine AllReadyH.cons rfl (fun K hK => ?_) AllReadyH.nil
  go_simp
  go_at_call 24
  refine (fmtP8 _ x1 (by omega) (by omega) (HT1w.out.below Swa.2)).mono ?_
  rintro e wb ⟨rfl, hb8⟩
  rw [HF1.out]
  have hb9wb : Below w1.heap.size w1 wb := bthen Swa.2 hb8
  have Swb : (fun W : World => (W.cell? ⟨w.heap.size, 0, none⟩ = some (.int .i64 x0) ∧ W.cell? ⟨w.heap.size, 1, none⟩ = some (.int .i64 x1) ∧ W.cell? ⟨w.heap.size, 2, none⟩ = some (.int .i64 x2) ∧ W.cell? ⟨w.heap.size, 3, none⟩ = some (.int .i64 2) ∧ W.cell? ⟨w.heap.size, 4, none⟩ = some (.int .i64 x4) ∧ W.cell? ⟨w.heap.size, 5, none⟩ = some (.int .i64 x5) ∧ W.cell? ⟨w.heap.size, 6, none⟩ = some (.int .i64 x6)) ∧ Below w1.heap.size w1 W) wb := ⟨⟨(bold hb9wb _ _ (la)).trans S0.1.1, (bold hb9wb _ _ (la)).trans S0.1.2.1, (bold hb9wb _ _ (la)).trans S0.1.2.2.1, (bold hb9wb _ _ (la)).trans S0.1.2.2.2.1, (bold hb9wb _ _ (la)).trans S0.1.2.2.2.2.1, (bold hb9wb _ _ (la)).trans S0.1.2.2.2.2.2.1, (bold hb9wb _ _ (la)).trans S0.1.2.2.2.2.2.2⟩, hb9wb⟩
  clear hb8
  go_wp2_with fail
  refine hK.out _ _ Swb (fun _ => ?_)
  clear hK K
  try simp only [Act.put, List.setIfInBounds_toArray, List.set_cons_zero, List.set_cons_succ]
  refine any_take (i := 7) (some 14) (.string T2) rfl rfl (by kernel_rfl) (by kernel_rfl) (by kernel_rfl) (fun _ _ _ h => h) rfl (fun W hSw => ?_) (Swb) ?_
  · (try dsimp only at hSw); go_simp; rw [if_neg (by omega)]; rw [HT2.out]
  try simp only [Act.put, List.setIfInBounds_toArray, List.set_cons_zero, List.set_cons_succ]
  refine any_take (i := 8) (some 15) (.string T3) rfl rfl (by kernel_rfl) (by kernel_rfl) (by kernel_rfl) (fun _ _ _ h => h) rfl (fun W hSw => ?_) (Swb) ?_
  · (try dsimp only at hSw); go_simp; rw [if_neg (by first | omega | (have := (rfl : (⟨#[64]⟩ : ByteArray).size = 1); omega))]; rw [HT3.out]
  try simp only [Act.put, List.setIfInBounds_toArray, List.set_cons_zero, List.set_cons_succ]
  refine wpAnyH_ready (rs := [11]) (by kernel_rfl) (by simp) ?_
  refine AllReadyH.cons rfl (fun K hK => ?_) AllReadyH.nil
  go_simp
  go_at_call 24
  refine (fmtP8 _ x2 (by omega) (by omega) (HT1w.out.below Swb.2)).mono ?_
  rintro e wc ⟨rfl, hb8⟩
  rw [HF2.out]
  have hb9wc : Below w1.heap.size w1 wc := bthen Swb.2 hb8
  have Swc : (fun W : World => (W.cell? ⟨w.heap.size, 0, none⟩ = some (.int .i64 x0) ∧ W.cell? ⟨w.heap.size, 1, none⟩ = some (.int .i64 x1) ∧ W.cell? ⟨w.heap.size, 2, none⟩ = some (.int .i64 x2) ∧ W.cell? ⟨w.heap.size, 3, none⟩ = some (.int .i64 2) ∧ W.cell? ⟨w.heap.size, 4, none⟩ = some (.int .i64 x4) ∧ W.cell? ⟨w.heap.size, 5, none⟩ = some (.int .i64 x5) ∧ W.cell? ⟨w.heap.size, 6, none⟩ = some (.int .i64 x6)) ∧ Below w1.heap.size w1 W) wc := ⟨⟨(bold hb9wc _ _ (la)).trans S0.1.1, (bold hb9wc _ _ (la)).trans S0.1.2.1, (bold hb9wc _ _ (la)).trans S0.1.2.2.1, (bold hb9wc _ _ (la)).trans S0.1.2.2.2.1, (bold hb9wc _ _ (la)).trans S0.1.2.2.2.2.1, (bold hb9wc _ _ (la)).trans S0.1.2.2.2.2.2.1, (bold hb9wc _ _ (la)).trans S0.1.2.2.2.2.2.2⟩, hb9wc⟩
  clear hb8
  go_wp2_with fail
  refine hK.out _ _ Swc (fun _ => ?_)
  clear hK K
  try simp only [Act.put, List.setIfInBounds_toArray, List.set_cons_zero, List.set_cons_succ]
  refine any_take (i := 12) (some 19) (.string T4) rfl rfl (by kernel_rfl) (by kernel_rfl) (by kernel_rfl) (fun _ _ _ h => h) rfl (fun W hSw => ?_) (Swc) ?_
  · (try dsimp only at hSw); go_simp; rw [if_neg (by omega)]; rw [HT4.out]
  try simp only [Act.put, List.setIfInBounds_toArray, List.set_cons_zero, List.set_cons_succ]
  refine any_take (i := 13) (some 20) (.string T5) rfl rfl (by kernel_rfl) (by kernel_rfl) (by kernel_rfl) (fun _ _ _ h => h) rfl (fun W hSw => ?_) (Swc) ?_
  · (try dsimp only at hSw); go_simp; rw [if_neg (by first | omega | (have := (rfl : (⟨#[32]⟩ : ByteArray).size = 1); omega))]; rw [HT5.out]
  try simp only [Act.put, List.setIfInBounds_toArray, List.set_cons_zero, List.set_cons_succ]
  refine wpAnyH_ready (rs := [16]) (by kernel_rfl) (by simp) ?_
  refine AllReadyH.cons rfl (fun K hK => ?_) AllReadyH.nil
  go_simp
  go_at_call 25
  refine (kindW_any _ 2 (by omega) (by omega)).mono ?_
  rintro e wd ⟨rfl, hb8⟩
  rw [HF3.out]
  have hb9wd : Below w1.heap.size w1 wd := bthen Swc.2 hb8
  have Swd : (fun W : World => (W.cell? ⟨w.heap.size, 0, none⟩ = some (.int .i64 x0) ∧ W.cell? ⟨w.heap.size, 1, none⟩ = some (.int .i64 x1) ∧ W.cell? ⟨w.heap.size, 2, none⟩ = some (.int .i64 x2) ∧ W.cell? ⟨w.heap.size, 3, none⟩ = some (.int .i64 2) ∧ W.cell? ⟨w.heap.size, 4, none⟩ = some (.int .i64 x4) ∧ W.cell? ⟨w.heap.size, 5, none⟩ = some (.int .i64 x5) ∧ W.cell? ⟨w.heap.size, 6, none⟩ = some (.int .i64 x6)) ∧ Below w1.heap.size w1 W) wd := ⟨⟨(bold hb9wd _ _ (la)).trans S0.1.1, (bold hb9wd _ _ (la)).trans S0.1.2.1, (bold hb9wd _ _ (la)).trans S0.1.2.2.1, (bold hb9wd _ _ (la)).trans S0.1.2.2.2.1, (bold hb9wd _ _ (la)).trans S0.1.2.2.2.2.1, (bold hb9wd _ _ (la)).trans S0.1.2.2.2.2.2.1, (bold hb9wd _ _ (la)).trans S0.1.2.2.2.2.2.2⟩, hb9wd⟩
  clear hb8
  go_wp2_with fail
  refine hK.out _ _ Swd (fun _ => ?_)
  clear hK K
  try simp only [Act.put, List.setIfInBounds_toArray, List.set_cons_zero, List.set_cons_succ]
  refine any_take (i := 17) (some 24) (.string T6) rfl rfl (by kernel_rfl) (by kernel_rfl) (by kernel_rfl) (fun _ _ _ h => h) rfl (fun W hSw => ?_) (Swd) ?_
  · (try dsimp only at hSw); go_simp; rw [if_neg (by omega)]; rw [HT6.out]
  try simp only [Act.put, List.setIfInBounds_toArray, List.set_cons_zero, List.set_cons_succ]
  refine any_take (i := 18) (some 25) (.string T7) rfl rfl (by kernel_rfl) (by kernel_rfl) (by kernel_rfl) (fun _ _ _ h => h) rfl (fun W hSw => ?_) (Swd) ?_
  · (try dsimp only at hSw); go_simp; rw [if_neg (by first | omega | (have := (rfl : (⟨#[32]⟩ : ByteArray).size = 1); omega))]; rw [HT7.out]
  try simp only [Act.put, List.setIfInBounds_toArray, List.set_cons_zero, List.set_cons_succ]
  refine wpAnyH_ready (rs := [21]) (by kernel_rfl) (by simp) ?_
  refine AllReadyH.cons rfl (fun K hK => ?_) AllReadyH.nil
  go_simp
  go_at_call 24
  refine (fmtP8 _ x4 (by omega) (by omega) (HT1w.out.below Swd.2)).mono ?_
  rintro e we ⟨rfl, hb8⟩
  rw [HF4.out]
  have hb9we : Below w1.heap.size w1 we := bthen Swd.2 hb8
  have Swe : (fun W : World => (W.cell? ⟨w.heap.size, 0, none⟩ = some (.int .i64 x0) ∧ W.cell? ⟨w.heap.size, 1, none⟩ = some (.int .i64 x1) ∧ W.cell? ⟨w.heap.size, 2, none⟩ = some (.int .i64 x2) ∧ W.cell? ⟨w.heap.size, 3, none⟩ = some (.int .i64 2) ∧ W.cell? ⟨w.heap.size, 4, none⟩ = some (.int .i64 x4) ∧ W.cell? ⟨w.heap.size, 5, none⟩ = some (.int .i64 x5) ∧ W.cell? ⟨w.heap.size, 6, none⟩ = some (.int .i64 x6)) ∧ Below w1.heap.size w1 W) we := ⟨⟨(bold hb9we _ _ (la)).trans S0.1.1, (bold hb9we _ _ (la)).trans S0.1.2.1, (bold hb9we _ _ (la)).trans S0.1.2.2.1, (bold hb9we _ _ (la)).trans S0.1.2.2.2.1, (bold hb9we _ _ (la)).trans S0.1.2.2.2.2.1, (bold hb9we _ _ (la)).trans S0.1.2.2.2.2.2.1, (bold hb9we _ _ (la)).trans S0.1.2.2.2.2.2.2⟩, hb9we⟩
  clear hb8
  go_wp2_with fail
  refine hK.out _ _ Swe (fun _ => ?_)
  clear hK K
  try simp only [Act.put, List.setIfInBounds_toArray, List.set_cons_zero, List.set_cons_succ]
  refine any_take (i := 22) (some 29) (.string T8) rfl rfl (by kernel_rfl) (by kernel_rfl) (by kernel_rfl) (fun _ _ _ h => h) rfl (fun W hSw => ?_) (Swe) ?_
  · (try dsimp only at hSw); go_simp; rw [if_neg (by omega)]; rw [HT8.out]
  try simp only [Act.put, List.setIfInBounds_toArray, List.set_cons_zero, List.set_cons_succ]
  refine any_take (i := 23) (some 3) (.string T8) rfl rfl (by kernel_rfl) (by kernel_rfl) (by kernel_rfl) (fun _ _ _ h => h) rfl (fun W hSw => ?_) (Swe) ?_
  · (try dsimp only at hSw); go_simp <;> with_reducible rfl
  try simp only [Act.put, List.setIfInBounds_toArray, List.set_cons_zero, List.set_cons_succ]
  refine wpAnyH_done (by kernel_rfl) ?_ _
  have hbreg : Below w1.heap.size w1 we := Swe.2
  clear S0 Swa hb9wa Swb hb9wb Swc hb9wc Swd hb9wd Swe hb9we
  replace q0 := (bold hbreg _ _ la).trans q0; replace q1 := (bold hbreg _ _ la).trans q1; replace q2 := (bold hbreg _ _ la).trans q2; replace q3 := (bold hbreg _ _ la).trans q3; replace q4 := (bold hbreg _ _ la).trans q4; replace q5 := (bold hbreg _ _ la).trans q5; replace q6 := (bold hbreg _ _ la).trans q6
  have HB2 := Lib.hid (bthen HB1.out hbreg); have HT2w := Lib.hid (HT1w.out.below hbreg); have la2 : w.heap.size < we.heap.size := by have := hbreg.size; omega
  clear hbreg
  go_wp2_with fail
  go_ret
  exact ⟨by rw [HEND.out]; rfl, HB2.out⟩
set_option maxRecDepth 100000 in
set_option maxHeartbeats 8000000 in
theorem fmeI_all (w : World) (x0 x1 x2 x3 x4 x5 x6 : Int) (hT : Tab8 w) (he : evB ⟨x0, x1, x2, x3, x4, x5, x6⟩ = true) (h2 : x3 ≠ 2) : Calls Tryd.prog 14 #[.agg #[.int .i64 x0, .int .i64 x1, .int .i64 x2, .int .i64 x3, .int .i64 x4, .int .i64 x5, .int .i64 x6]] w fun e w' => e = .returned (.string (fmE ⟨x0, x1, x2, x3, x4, x5, x6⟩)) ∧ Below w.heap.size w w' := by
  have hev := evB_facts he; dsimp only at hev
  obtain ⟨⟨a0, b0⟩, ⟨a1, b1⟩, ⟨a2, b2⟩, ⟨a3, b3⟩, ⟨a4, b4⟩, ⟨a5, b5⟩, a6, b6⟩ := hev
  have HE := Lib.hid he; clear he
  have HT := Lib.hid hT; clear hT
  have h2n : (x3 == 2) = false := by simp [h2]
  have H2 := Lib.hid h2; clear h2
  obtain ⟨F0, hF0⟩ : ∃ F, fmI x0 = F := ⟨_, rfl⟩
  have hn0 := fmI_len x0; rw [hF0] at hn0; have HF0 := Lib.hid hF0; clear hF0
  obtain ⟨F1, hF1⟩ : ∃ F, fmI x1 = F := ⟨_, rfl⟩
  have hn1 := fmI_len x1; rw [hF1] at hn1; have HF1 := Lib.hid hF1; clear hF1
  obtain ⟨F2, hF2⟩ : ∃ F, fmI x2 = F := ⟨_, rfl⟩
  have hn2 := fmI_len x2; rw [hF2] at hn2; have HF2 := Lib.hid hF2; clear hF2
  obtain ⟨F4, hF4⟩ : ∃ F, fmI x4 = F := ⟨_, rfl⟩
  have hn4 := fmI_len x4; rw [hF4] at hn4; have HF4 := Lib.hid hF4; clear hF4
  obtain ⟨F5, hF5⟩ : ∃ F, fmI x5 = F := ⟨_, rfl⟩
  have hn5 := fmI_len x5; rw [hF5] at hn5; have HF5 := Lib.hid hF5; clear hF5
  obtain ⟨F6, hF6⟩ : ∃ F, fmI x6 = F := ⟨_, rfl⟩
  have hn6 := fmI_len x6; rw [hF6] at hn6; have HF6 := Lib.hid hF6; clear hF6
  obtain ⟨F3, hF3⟩ : ∃ F, kindS x3 = F := ⟨_, rfl⟩
  have hn3 := kindS_len x3; rw [hF3] at hn3; have HF3 := Lib.hid hF3; clear hF3
  obtain ⟨T1, hT1⟩ : ∃ T, F0 ++ (⟨#[46]⟩ : ByteArray) = T := ⟨_, rfl⟩
  have zT1 : T1.size ≤ 22 := by rw [← hT1, cat1]; omega
  have HT1 := Lib.hid hT1; clear hT1
  obtain ⟨T2, hT2⟩ : ∃ T, T1 ++ F1 = T := ⟨_, rfl⟩
  have zT2 : T2.size ≤ 43 := by rw [← hT2, cat_len]; omega
  have HT2 := Lib.hid hT2; clear hT2
  obtain ⟨T3, hT3⟩ : ∃ T, T2 ++ (⟨#[64]⟩ : ByteArray) = T := ⟨_, rfl⟩
  have zT3 : T3.size ≤ 44 := by rw [← hT3, cat1]; omega
  have HT3 := Lib.hid hT3; clear hT3
  obtain ⟨T4, hT4⟩ : ∃ T, T3 ++ F2 = T := ⟨_, rfl⟩
  have zT4 : T4.size ≤ 65 := by rw [← hT4, cat_len]; omega
  have HT4 := Lib.hid hT4; clear hT4
  obtain ⟨T5, hT5⟩ : ∃ T, T4 ++ (⟨#[32]⟩ : ByteArray) = T := ⟨_, rfl⟩
  have zT5 : T5.size ≤ 66 := by rw [← hT5, cat1]; omega
  have HT5 := Lib.hid hT5; clear hT5
  obtain ⟨T6, hT6⟩ : ∃ T, T5 ++ F3 = T := ⟨_, rfl⟩
  have zT6 : T6.size ≤ 74 := by rw [← hT6, cat_len]; omega
  have HT6 := Lib.hid hT6; clear hT6
  obtain ⟨T7, hT7⟩ : ∃ T, T6 ++ (⟨#[32]⟩ : ByteArray) = T := ⟨_, rfl⟩
  have zT7 : T7.size ≤ 75 := by rw [← hT7, cat1]; omega
  have HT7 := Lib.hid hT7; clear hT7
  obtain ⟨T8, hT8⟩ : ∃ T, T7 ++ F4 = T := ⟨_, rfl⟩
  have zT8 : T8.size ≤ 96 := by rw [← hT8, cat_len]; omega
  have HT8 := Lib.hid hT8; clear hT8
  obtain ⟨T9, hT9⟩ : ∃ T, T8 ++ (⟨#[32]⟩ : ByteArray) = T := ⟨_, rfl⟩
  have zT9 : T9.size ≤ 97 := by rw [← hT9, cat1]; omega
  have HT9 := Lib.hid hT9; clear hT9
  obtain ⟨TA, hTA⟩ : ∃ T, T9 ++ F5 = T := ⟨_, rfl⟩
  have zTA : TA.size ≤ 118 := by rw [← hTA, cat_len]; omega
  have HTA := Lib.hid hTA; clear hTA
  obtain ⟨TB, hTB⟩ : ∃ T, TA ++ (⟨#[32]⟩ : ByteArray) = T := ⟨_, rfl⟩
  have zTB : TB.size ≤ 119 := by rw [← hTB, cat1]; omega
  have HTB := Lib.hid hTB; clear hTB
  obtain ⟨TC, hTC⟩ : ∃ T, TB ++ F6 = T := ⟨_, rfl⟩
  have zTC : TC.size ≤ 140 := by rw [← hTC, cat_len]; omega
  have HTC := Lib.hid hTC; clear hTC
  skip
  have hend : fmE ⟨x0, x1, x2, x3, x4, x5, x6⟩ = TC := by rw [fmE_all HE.out H2.out]; unfold fmX; dsimp only; rw [HF0.out, HT1.out, HF1.out, HT2.out, HT3.out, HF2.out, HT4.out, HT5.out, HF3.out, HT6.out, HT7.out, HF4.out, HT8.out, HT9.out, HF5.out, HTA.out, HTB.out, HF6.out, HTC.out]
  have HEND := Lib.hid hend; clear hend
  go_enter Tryd.func14, Tryd.ntmps14
  go_wp2_with (go_at_call 23; refine (evI_any _ x0 x1 x2 x3 x4 x5 x6).mono ?_; rintro e w1 ⟨rfl, hb1⟩; rw [HE.out])
  have za := has_call (has_new w 34 #[.int .i64 x0, .int .i64 x1, .int .i64 x2, .int .i64 x3, .int .i64 x4, .int .i64 x5, .int .i64 x6]) hb1
  have hb := bthen (balloc w (.cells #[.int .i64 x0, .int .i64 x1, .int .i64 x2, .int .i64 x3, .int .i64 x4, .int .i64 x5, .int .i64 x6] 34)) hb1
  have HT1w := Lib.hid (HT.out.below hb)
  have HB1 := Lib.hid hb; clear hb1 hb
  have la := has_lt za
  have q0 := has_cell za 0 rfl; have q1 := has_cell za 1 rfl; have q2 := has_cell za 2 rfl; have q3 := has_cell za 3 rfl; have q4 := has_cell za 4 rfl; have q5 := has_cell za 5 rfl; have q6 := has_cell za 6 rfl
  clear za
  go_wp2_with fail
  have S0 : (fun W : World => (W.cell? ⟨w.heap.size, 0, none⟩ = some (.int .i64 x0) ∧ W.cell? ⟨w.heap.size, 1, none⟩ = some (.int .i64 x1) ∧ W.cell? ⟨w.heap.size, 2, none⟩ = some (.int .i64 x2) ∧ W.cell? ⟨w.heap.size, 3, none⟩ = some (.int .i64 x3) ∧ W.cell? ⟨w.heap.size, 4, none⟩ = some (.int .i64 x4) ∧ W.cell? ⟨w.heap.size, 5, none⟩ = some (.int .i64 x5) ∧ W.cell? ⟨w.heap.size, 6, none⟩ = some (.int .i64 x6)) ∧ Below w1.heap.size w1 W) w1.drew := ⟨⟨q0, q1, q2, q3, q4, q5, q6⟩, (Below.refl _ _).drew⟩
  refine wp_region_held_drew (S := (fun W : World => (W.cell? ⟨w.heap.size, 0, none⟩ = some (.int .i64 x0) ∧ W.cell? ⟨w.heap.size, 1, none⟩ = some (.int .i64 x1) ∧ W.cell? ⟨w.heap.size, 2, none⟩ = some (.int .i64 x2) ∧ W.cell? ⟨w.heap.size, 3, none⟩ = some (.int .i64 x3) ∧ W.cell? ⟨w.heap.size, 4, none⟩ = some (.int .i64 x4) ∧ W.cell? ⟨w.heap.size, 5, none⟩ = some (.int .i64 x5) ∧ W.cell? ⟨w.heap.size, 6, none⟩ = some (.int .i64 x6)) ∧ Below w1.heap.size w1 W)) (by kernel_rfl) S0 (fun _ => ?_)
  refine any_take (i := 0) (some 7) (.pointer (some ⟨w.heap.size, 0, none⟩)) rfl rfl (by kernel_rfl) (by kernel_rfl) (by kernel_rfl) (fun _ _ _ h => h) rfl (fun W hSw => ?_) (S0) ?_
  · (try dsimp only at hSw); go_simp <;> with_reducible rfl
  try simp only [Act.put, List.setIfInBounds_toArray, List.set_cons_zero, List.set_cons_succ]
  refine any_take (i := 1) (some 8) (.int .i64 x0) rfl rfl (by kernel_rfl) (by kernel_rfl) (by kernel_rfl) (fun _ _ _ h => h) rfl (fun W hSw => ?_) (S0) ?_
  · (try dsimp only at hSw); go_simp <;> with_reducible rfl
  try simp only [Act.put, List.setIfInBounds_toArray, List.set_cons_zero, List.set_cons_succ]
  refine any_take (i := 4) (some 11) (.pointer (some ⟨w.heap.size, 1, none⟩)) rfl rfl (by kernel_rfl) (by kernel_rfl) (by kernel_rfl) (fun _ _ _ h => h) rfl (fun W hSw => ?_) (S0) ?_
  · (try dsimp only at hSw); go_simp <;> with_reducible rfl
  try simp only [Act.put, List.setIfInBounds_toArray, List.set_cons_zero, List.set_cons_succ]
  refine any_take (i := 5) (some 12) (.int .i64 x1) rfl rfl (by kernel_rfl) (by kernel_rfl) (by kernel_rfl) (fun _ _ _ h => h) rfl (fun W hSw => ?_) (S0) ?_
  · (try dsimp only at hSw); go_simp <;> with_reducible rfl
  try simp only [Act.put, List.setIfInBounds_toArray, List.set_cons_zero, List.set_cons_succ]
  refine any_take (i := 9) (some 16) (.pointer (some ⟨w.heap.size, 2, none⟩)) rfl rfl (by kernel_rfl) (by kernel_rfl) (by kernel_rfl) (fun _ _ _ h => h) rfl (fun W hSw => ?_) (S0) ?_
  · (try dsimp only at hSw); go_simp <;> with_reducible rfl
  try simp only [Act.put, List.setIfInBounds_toArray, List.set_cons_zero, List.set_cons_succ]
  refine any_take (i := 10) (some 17) (.int .i64 x2) rfl rfl (by kernel_rfl) (by kernel_rfl) (by kernel_rfl) (fun _ _ _ h => h) rfl (fun W hSw => ?_) (S0) ?_
  · (try dsimp only at hSw); go_simp <;> with_reducible rfl
  try simp only [Act.put, List.setIfInBounds_toArray, List.set_cons_zero, List.set_cons_succ]
  refine any_take (i := 14) (some 21) (.pointer (some ⟨w.heap.size, 3, none⟩)) rfl rfl (by kernel_rfl) (by kernel_rfl) (by kernel_rfl) (fun _ _ _ h => h) rfl (fun W hSw => ?_) (S0) ?_
  · (try dsimp only at hSw); go_simp <;> with_reducible rfl
  try simp only [Act.put, List.setIfInBounds_toArray, List.set_cons_zero, List.set_cons_succ]
  refine any_take (i := 15) (some 22) (.int .i64 x3) rfl rfl (by kernel_rfl) (by kernel_rfl) (by kernel_rfl) (fun _ _ _ h => h) rfl (fun W hSw => ?_) (S0) ?_
  · (try dsimp only at hSw); go_simp <;> with_reducible rfl
  try simp only [Act.put, List.setIfInBounds_toArray, List.set_cons_zero, List.set_cons_succ]
  refine any_take (i := 19) (some 26) (.pointer (some ⟨w.heap.size, 4, none⟩)) rfl rfl (by kernel_rfl) (by kernel_rfl) (by kernel_rfl) (fun _ _ _ h => h) rfl (fun W hSw => ?_) (S0) ?_
  · (try dsimp only at hSw); go_simp <;> with_reducible rfl
  try simp only [Act.put, List.setIfInBounds_toArray, List.set_cons_zero, List.set_cons_succ]
  refine any_take (i := 20) (some 27) (.int .i64 x4) rfl rfl (by kernel_rfl) (by kernel_rfl) (by kernel_rfl) (fun _ _ _ h => h) rfl (fun W hSw => ?_) (S0) ?_
  · (try dsimp only at hSw); go_simp <;> with_reducible rfl
  try simp only [Act.put, List.setIfInBounds_toArray, List.set_cons_zero, List.set_cons_succ]
  refine wpAnyH_ready (rs := [2]) (by kernel_rfl) (by simp) ?_
  refine AllReadyH.cons rfl (fun K hK => ?_) AllReadyH.nil
  go_simp
  go_at_call 24
  refine (fmtP8 _ x0 (by omega) (by omega) (HT1w.out.below S0.2)).mono ?_
  rintro e wa ⟨rfl, hb8⟩
  rw [HF0.out]
  have hb9wa : Below w1.heap.size w1 wa := bthen ((Below.refl _ _).drew : Below w1.heap.size w1 w1.drew) hb8
  have Swa : (fun W : World => (W.cell? ⟨w.heap.size, 0, none⟩ = some (.int .i64 x0) ∧ W.cell? ⟨w.heap.size, 1, none⟩ = some (.int .i64 x1) ∧ W.cell? ⟨w.heap.size, 2, none⟩ = some (.int .i64 x2) ∧ W.cell? ⟨w.heap.size, 3, none⟩ = some (.int .i64 x3) ∧ W.cell? ⟨w.heap.size, 4, none⟩ = some (.int .i64 x4) ∧ W.cell? ⟨w.heap.size, 5, none⟩ = some (.int .i64 x5) ∧ W.cell? ⟨w.heap.size, 6, none⟩ = some (.int .i64 x6)) ∧ Below w1.heap.size w1 W) wa := ⟨⟨(bold hb9wa _ _ (la)).trans S0.1.1, (bold hb9wa _ _ (la)).trans S0.1.2.1, (bold hb9wa _ _ (la)).trans S0.1.2.2.1, (bold hb9wa _ _ (la)).trans S0.1.2.2.2.1, (bold hb9wa _ _ (la)).trans S0.1.2.2.2.2.1, (bold hb9wa _ _ (la)).trans S0.1.2.2.2.2.2.1, (bold hb9wa _ _ (la)).trans S0.1.2.2.2.2.2.2⟩, hb9wa⟩
  clear hb8
  go_wp2_with fail
  refine hK.out _ _ Swa (fun _ => ?_)
  clear hK K
  try simp only [Act.put, List.setIfInBounds_toArray, List.set_cons_zero, List.set_cons_succ]
  refine any_take (i := 3) (some 10) (.string T1) rfl rfl (by kernel_rfl) (by kernel_rfl) (by kernel_rfl) (fun _ _ _ h => h) rfl (fun W hSw => ?_) (Swa) ?_
  · (try dsimp only at hSw); go_simp; rw [if_neg (by first | omega | (have := (rfl : (⟨#[46]⟩ : ByteArray).size = 1); omega))]; rw [HT1.out]
  try simp only [Act.put, List.setIfInBounds_toArray, List.set_cons_zero, List.set_cons_succ]
  refine wpAnyH_ready (rs := [6]) (by kernel_rfl) (by simp) ?_
  refine AllReadyH.cons rfl (fun K hK => ?_) AllReadyH.nil
  go_simp
  go_at_call 24
  refine (fmtP8 _ x1 (by omega) (by omega) (HT1w.out.below Swa.2)).mono ?_
  rintro e wb ⟨rfl, hb8⟩
  rw [HF1.out]
  have hb9wb : Below w1.heap.size w1 wb := bthen Swa.2 hb8
  have Swb : (fun W : World => (W.cell? ⟨w.heap.size, 0, none⟩ = some (.int .i64 x0) ∧ W.cell? ⟨w.heap.size, 1, none⟩ = some (.int .i64 x1) ∧ W.cell? ⟨w.heap.size, 2, none⟩ = some (.int .i64 x2) ∧ W.cell? ⟨w.heap.size, 3, none⟩ = some (.int .i64 x3) ∧ W.cell? ⟨w.heap.size, 4, none⟩ = some (.int .i64 x4) ∧ W.cell? ⟨w.heap.size, 5, none⟩ = some (.int .i64 x5) ∧ W.cell? ⟨w.heap.size, 6, none⟩ = some (.int .i64 x6)) ∧ Below w1.heap.size w1 W) wb := ⟨⟨(bold hb9wb _ _ (la)).trans S0.1.1, (bold hb9wb _ _ (la)).trans S0.1.2.1, (bold hb9wb _ _ (la)).trans S0.1.2.2.1, (bold hb9wb _ _ (la)).trans S0.1.2.2.2.1, (bold hb9wb _ _ (la)).trans S0.1.2.2.2.2.1, (bold hb9wb _ _ (la)).trans S0.1.2.2.2.2.2.1, (bold hb9wb _ _ (la)).trans S0.1.2.2.2.2.2.2⟩, hb9wb⟩
  clear hb8
  go_wp2_with fail
  refine hK.out _ _ Swb (fun _ => ?_)
  clear hK K
  try simp only [Act.put, List.setIfInBounds_toArray, List.set_cons_zero, List.set_cons_succ]
  refine any_take (i := 7) (some 14) (.string T2) rfl rfl (by kernel_rfl) (by kernel_rfl) (by kernel_rfl) (fun _ _ _ h => h) rfl (fun W hSw => ?_) (Swb) ?_
  · (try dsimp only at hSw); go_simp; rw [if_neg (by omega)]; rw [HT2.out]
  try simp only [Act.put, List.setIfInBounds_toArray, List.set_cons_zero, List.set_cons_succ]
  refine any_take (i := 8) (some 15) (.string T3) rfl rfl (by kernel_rfl) (by kernel_rfl) (by kernel_rfl) (fun _ _ _ h => h) rfl (fun W hSw => ?_) (Swb) ?_
  · (try dsimp only at hSw); go_simp; rw [if_neg (by first | omega | (have := (rfl : (⟨#[64]⟩ : ByteArray).size = 1); omega))]; rw [HT3.out]
  try simp only [Act.put, List.setIfInBounds_toArray, List.set_cons_zero, List.set_cons_succ]
  refine wpAnyH_ready (rs := [11]) (by kernel_rfl) (by simp) ?_
  refine AllReadyH.cons rfl (fun K hK => ?_) AllReadyH.nil
  go_simp
  go_at_call 24
  refine (fmtP8 _ x2 (by omega) (by omega) (HT1w.out.below Swb.2)).mono ?_
  rintro e wc ⟨rfl, hb8⟩
  rw [HF2.out]
  have hb9wc : Below w1.heap.size w1 wc := bthen Swb.2 hb8
  have Swc : (fun W : World => (W.cell? ⟨w.heap.size, 0, none⟩ = some (.int .i64 x0) ∧ W.cell? ⟨w.heap.size, 1, none⟩ = some (.int .i64 x1) ∧ W.cell? ⟨w.heap.size, 2, none⟩ = some (.int .i64 x2) ∧ W.cell? ⟨w.heap.size, 3, none⟩ = some (.int .i64 x3) ∧ W.cell? ⟨w.heap.size, 4, none⟩ = some (.int .i64 x4) ∧ W.cell? ⟨w.heap.size, 5, none⟩ = some (.int .i64 x5) ∧ W.cell? ⟨w.heap.size, 6, none⟩ = some (.int .i64 x6)) ∧ Below w1.heap.size w1 W) wc := ⟨⟨(bold hb9wc _ _ (la)).trans S0.1.1, (bold hb9wc _ _ (la)).trans S0.1.2.1, (bold hb9wc _ _ (la)).trans S0.1.2.2.1, (bold hb9wc _ _ (la)).trans S0.1.2.2.2.1, (bold hb9wc _ _ (la)).trans S0.1.2.2.2.2.1, (bold hb9wc _ _ (la)).trans S0.1.2.2.2.2.2.1, (bold hb9wc _ _ (la)).trans S0.1.2.2.2.2.2.2⟩, hb9wc⟩
  clear hb8
  go_wp2_with fail
  refine hK.out _ _ Swc (fun _ => ?_)
  clear hK K
  try simp only [Act.put, List.setIfInBounds_toArray, List.set_cons_zero, List.set_cons_succ]
  refine any_take (i := 12) (some 19) (.string T4) rfl rfl (by kernel_rfl) (by kernel_rfl) (by kernel_rfl) (fun _ _ _ h => h) rfl (fun W hSw => ?_) (Swc) ?_
  · (try dsimp only at hSw); go_simp; rw [if_neg (by omega)]; rw [HT4.out]
  try simp only [Act.put, List.setIfInBounds_toArray, List.set_cons_zero, List.set_cons_succ]
  refine any_take (i := 13) (some 20) (.string T5) rfl rfl (by kernel_rfl) (by kernel_rfl) (by kernel_rfl) (fun _ _ _ h => h) rfl (fun W hSw => ?_) (Swc) ?_
  · (try dsimp only at hSw); go_simp; rw [if_neg (by first | omega | (have := (rfl : (⟨#[32]⟩ : ByteArray).size = 1); omega))]; rw [HT5.out]
  try simp only [Act.put, List.setIfInBounds_toArray, List.set_cons_zero, List.set_cons_succ]
  refine wpAnyH_ready (rs := [16]) (by kernel_rfl) (by simp) ?_
  refine AllReadyH.cons rfl (fun K hK => ?_) AllReadyH.nil
  go_simp
  go_at_call 25
  refine (kindW_any _ x3 (by omega) (by omega)).mono ?_
  rintro e wd ⟨rfl, hb8⟩
  rw [HF3.out]
  have hb9wd : Below w1.heap.size w1 wd := bthen Swc.2 hb8
  have Swd : (fun W : World => (W.cell? ⟨w.heap.size, 0, none⟩ = some (.int .i64 x0) ∧ W.cell? ⟨w.heap.size, 1, none⟩ = some (.int .i64 x1) ∧ W.cell? ⟨w.heap.size, 2, none⟩ = some (.int .i64 x2) ∧ W.cell? ⟨w.heap.size, 3, none⟩ = some (.int .i64 x3) ∧ W.cell? ⟨w.heap.size, 4, none⟩ = some (.int .i64 x4) ∧ W.cell? ⟨w.heap.size, 5, none⟩ = some (.int .i64 x5) ∧ W.cell? ⟨w.heap.size, 6, none⟩ = some (.int .i64 x6)) ∧ Below w1.heap.size w1 W) wd := ⟨⟨(bold hb9wd _ _ (la)).trans S0.1.1, (bold hb9wd _ _ (la)).trans S0.1.2.1, (bold hb9wd _ _ (la)).trans S0.1.2.2.1, (bold hb9wd _ _ (la)).trans S0.1.2.2.2.1, (bold hb9wd _ _ (la)).trans S0.1.2.2.2.2.1, (bold hb9wd _ _ (la)).trans S0.1.2.2.2.2.2.1, (bold hb9wd _ _ (la)).trans S0.1.2.2.2.2.2.2⟩, hb9wd⟩
  clear hb8
  go_wp2_with fail
  refine hK.out _ _ Swd (fun _ => ?_)
  clear hK K
  try simp only [Act.put, List.setIfInBounds_toArray, List.set_cons_zero, List.set_cons_succ]
  refine any_take (i := 17) (some 24) (.string T6) rfl rfl (by kernel_rfl) (by kernel_rfl) (by kernel_rfl) (fun _ _ _ h => h) rfl (fun W hSw => ?_) (Swd) ?_
  · (try dsimp only at hSw); go_simp; rw [if_neg (by omega)]; rw [HT6.out]
  try simp only [Act.put, List.setIfInBounds_toArray, List.set_cons_zero, List.set_cons_succ]
  refine any_take (i := 18) (some 25) (.string T7) rfl rfl (by kernel_rfl) (by kernel_rfl) (by kernel_rfl) (fun _ _ _ h => h) rfl (fun W hSw => ?_) (Swd) ?_
  · (try dsimp only at hSw); go_simp; rw [if_neg (by first | omega | (have := (rfl : (⟨#[32]⟩ : ByteArray).size = 1); omega))]; rw [HT7.out]
  try simp only [Act.put, List.setIfInBounds_toArray, List.set_cons_zero, List.set_cons_succ]
  refine wpAnyH_ready (rs := [21]) (by kernel_rfl) (by simp) ?_
  refine AllReadyH.cons rfl (fun K hK => ?_) AllReadyH.nil
  go_simp
  go_at_call 24
  refine (fmtP8 _ x4 (by omega) (by omega) (HT1w.out.below Swd.2)).mono ?_
  rintro e we ⟨rfl, hb8⟩
  rw [HF4.out]
  have hb9we : Below w1.heap.size w1 we := bthen Swd.2 hb8
  have Swe : (fun W : World => (W.cell? ⟨w.heap.size, 0, none⟩ = some (.int .i64 x0) ∧ W.cell? ⟨w.heap.size, 1, none⟩ = some (.int .i64 x1) ∧ W.cell? ⟨w.heap.size, 2, none⟩ = some (.int .i64 x2) ∧ W.cell? ⟨w.heap.size, 3, none⟩ = some (.int .i64 x3) ∧ W.cell? ⟨w.heap.size, 4, none⟩ = some (.int .i64 x4) ∧ W.cell? ⟨w.heap.size, 5, none⟩ = some (.int .i64 x5) ∧ W.cell? ⟨w.heap.size, 6, none⟩ = some (.int .i64 x6)) ∧ Below w1.heap.size w1 W) we := ⟨⟨(bold hb9we _ _ (la)).trans S0.1.1, (bold hb9we _ _ (la)).trans S0.1.2.1, (bold hb9we _ _ (la)).trans S0.1.2.2.1, (bold hb9we _ _ (la)).trans S0.1.2.2.2.1, (bold hb9we _ _ (la)).trans S0.1.2.2.2.2.1, (bold hb9we _ _ (la)).trans S0.1.2.2.2.2.2.1, (bold hb9we _ _ (la)).trans S0.1.2.2.2.2.2.2⟩, hb9we⟩
  clear hb8
  go_wp2_with fail
  refine hK.out _ _ Swe (fun _ => ?_)
  clear hK K
  try simp only [Act.put, List.setIfInBounds_toArray, List.set_cons_zero, List.set_cons_succ]
  refine any_take (i := 22) (some 29) (.string T8) rfl rfl (by kernel_rfl) (by kernel_rfl) (by kernel_rfl) (fun _ _ _ h => h) rfl (fun W hSw => ?_) (Swe) ?_
  · (try dsimp only at hSw); go_simp; rw [if_neg (by omega)]; rw [HT8.out]
  try simp only [Act.put, List.setIfInBounds_toArray, List.set_cons_zero, List.set_cons_succ]
  refine any_take (i := 23) (some 3) (.string T8) rfl rfl (by kernel_rfl) (by kernel_rfl) (by kernel_rfl) (fun _ _ _ h => h) rfl (fun W hSw => ?_) (Swe) ?_
  · (try dsimp only at hSw); go_simp <;> with_reducible rfl
  try simp only [Act.put, List.setIfInBounds_toArray, List.set_cons_zero, List.set_cons_succ]
  refine wpAnyH_done (by kernel_rfl) ?_ _
  have hbreg : Below w1.heap.size w1 we := Swe.2
  clear S0 Swa hb9wa Swb hb9wb Swc hb9wc Swd hb9wd Swe hb9we
  replace q0 := (bold hbreg _ _ la).trans q0; replace q1 := (bold hbreg _ _ la).trans q1; replace q2 := (bold hbreg _ _ la).trans q2; replace q3 := (bold hbreg _ _ la).trans q3; replace q4 := (bold hbreg _ _ la).trans q4; replace q5 := (bold hbreg _ _ la).trans q5; replace q6 := (bold hbreg _ _ la).trans q6
  have HB2 := Lib.hid (bthen HB1.out hbreg); have HT2w := Lib.hid (HT1w.out.below hbreg); have la2 : w.heap.size < we.heap.size := by have := hbreg.size; omega
  clear hbreg
  go_wp2_with fail
  have S0 : (fun W : World => (W.cell? ⟨w.heap.size, 5, none⟩ = some (.int .i64 x5) ∧ W.cell? ⟨w.heap.size, 6, none⟩ = some (.int .i64 x6)) ∧ Below we.heap.size we W) we.drew := ⟨⟨q5, q6⟩, (Below.refl _ _).drew⟩
  clear q5 q6
  refine wp_region_held_drew (S := (fun W : World => (W.cell? ⟨w.heap.size, 5, none⟩ = some (.int .i64 x5) ∧ W.cell? ⟨w.heap.size, 6, none⟩ = some (.int .i64 x6)) ∧ Below we.heap.size we W)) (by kernel_rfl) S0 (fun _ => ?_)
  refine any_take (i := 0) (some 34) (.string T8) rfl rfl (by kernel_rfl) (by kernel_rfl) (by kernel_rfl) (fun _ _ _ h => h) rfl (fun W hSw => ?_) (S0) ?_
  · (try dsimp only at hSw); go_simp <;> with_reducible rfl
  try simp only [Act.put, List.setIfInBounds_toArray, List.set_cons_zero, List.set_cons_succ]
  refine any_take (i := 1) (some 35) (.string T9) rfl rfl (by kernel_rfl) (by kernel_rfl) (by kernel_rfl) (fun _ _ _ h => h) rfl (fun W hSw => ?_) (S0) ?_
  · (try dsimp only at hSw); go_simp; rw [if_neg (by first | omega | (have := (rfl : (⟨#[32]⟩ : ByteArray).size = 1); omega))]; rw [HT9.out]
  try simp only [Act.put, List.setIfInBounds_toArray, List.set_cons_zero, List.set_cons_succ]
  refine any_take (i := 2) (some 36) (.pointer (some ⟨w.heap.size, 5, none⟩)) rfl rfl (by kernel_rfl) (by kernel_rfl) (by kernel_rfl) (fun _ _ _ h => h) rfl (fun W hSw => ?_) (S0) ?_
  · (try dsimp only at hSw); go_simp <;> with_reducible rfl
  try simp only [Act.put, List.setIfInBounds_toArray, List.set_cons_zero, List.set_cons_succ]
  refine any_take (i := 3) (some 37) (.int .i64 x5) rfl rfl (by kernel_rfl) (by kernel_rfl) (by kernel_rfl) (fun _ _ _ h => h) rfl (fun W hSw => ?_) (S0) ?_
  · (try dsimp only at hSw); go_simp <;> with_reducible rfl
  try simp only [Act.put, List.setIfInBounds_toArray, List.set_cons_zero, List.set_cons_succ]
  refine any_take (i := 7) (some 41) (.pointer (some ⟨w.heap.size, 6, none⟩)) rfl rfl (by kernel_rfl) (by kernel_rfl) (by kernel_rfl) (fun _ _ _ h => h) rfl (fun W hSw => ?_) (S0) ?_
  · (try dsimp only at hSw); go_simp <;> with_reducible rfl
  try simp only [Act.put, List.setIfInBounds_toArray, List.set_cons_zero, List.set_cons_succ]
  refine any_take (i := 8) (some 42) (.int .i64 x6) rfl rfl (by kernel_rfl) (by kernel_rfl) (by kernel_rfl) (fun _ _ _ h => h) rfl (fun W hSw => ?_) (S0) ?_
  · (try dsimp only at hSw); go_simp <;> with_reducible rfl
  try simp only [Act.put, List.setIfInBounds_toArray, List.set_cons_zero, List.set_cons_succ]
  refine wpAnyH_ready (rs := [4]) (by kernel_rfl) (by simp) ?_
  refine AllReadyH.cons rfl (fun K hK => ?_) AllReadyH.nil
  go_simp
  go_at_call 24
  refine (fmtP8 _ x5 (by omega) (by omega) (HT2w.out.below S0.2)).mono ?_
  rintro e wf ⟨rfl, hb8⟩
  rw [HF5.out]
  have hb9wf : Below we.heap.size we wf := bthen ((Below.refl _ _).drew : Below we.heap.size we we.drew) hb8
  have Swf : (fun W : World => (W.cell? ⟨w.heap.size, 5, none⟩ = some (.int .i64 x5) ∧ W.cell? ⟨w.heap.size, 6, none⟩ = some (.int .i64 x6)) ∧ Below we.heap.size we W) wf := ⟨⟨(bold hb9wf _ _ (la2)).trans S0.1.1, (bold hb9wf _ _ (la2)).trans S0.1.2⟩, hb9wf⟩
  clear hb8
  go_wp2_with fail
  refine hK.out _ _ Swf (fun _ => ?_)
  clear hK K
  try simp only [Act.put, List.setIfInBounds_toArray, List.set_cons_zero, List.set_cons_succ]
  refine any_take (i := 5) (some 39) (.string TA) rfl rfl (by kernel_rfl) (by kernel_rfl) (by kernel_rfl) (fun _ _ _ h => h) rfl (fun W hSw => ?_) (Swf) ?_
  · (try dsimp only at hSw); go_simp; rw [if_neg (by omega)]; rw [HTA.out]
  try simp only [Act.put, List.setIfInBounds_toArray, List.set_cons_zero, List.set_cons_succ]
  refine any_take (i := 6) (some 40) (.string TB) rfl rfl (by kernel_rfl) (by kernel_rfl) (by kernel_rfl) (fun _ _ _ h => h) rfl (fun W hSw => ?_) (Swf) ?_
  · (try dsimp only at hSw); go_simp; rw [if_neg (by first | omega | (have := (rfl : (⟨#[32]⟩ : ByteArray).size = 1); omega))]; rw [HTB.out]
  try simp only [Act.put, List.setIfInBounds_toArray, List.set_cons_zero, List.set_cons_succ]
  refine wpAnyH_ready (rs := [9]) (by kernel_rfl) (by simp) ?_
  refine AllReadyH.cons rfl (fun K hK => ?_) AllReadyH.nil
  go_simp
  go_at_call 24
  refine (fmtP8 _ x6 (by omega) (by omega) (HT2w.out.below Swf.2)).mono ?_
  rintro e wg ⟨rfl, hb8⟩
  rw [HF6.out]
  have hb9wg : Below we.heap.size we wg := bthen Swf.2 hb8
  have Swg : (fun W : World => (W.cell? ⟨w.heap.size, 5, none⟩ = some (.int .i64 x5) ∧ W.cell? ⟨w.heap.size, 6, none⟩ = some (.int .i64 x6)) ∧ Below we.heap.size we W) wg := ⟨⟨(bold hb9wg _ _ (la2)).trans S0.1.1, (bold hb9wg _ _ (la2)).trans S0.1.2⟩, hb9wg⟩
  clear hb8
  go_wp2_with fail
  refine hK.out _ _ Swg (fun _ => ?_)
  clear hK K
  try simp only [Act.put, List.setIfInBounds_toArray, List.set_cons_zero, List.set_cons_succ]
  refine any_take (i := 10) (some 44) (.string TC) rfl rfl (by kernel_rfl) (by kernel_rfl) (by kernel_rfl) (fun _ _ _ h => h) rfl (fun W hSw => ?_) (Swg) ?_
  · (try dsimp only at hSw); go_simp; rw [if_neg (by omega)]; rw [HTC.out]
  try simp only [Act.put, List.setIfInBounds_toArray, List.set_cons_zero, List.set_cons_succ]
  refine any_take (i := 11) (some 2) (.string TC) rfl rfl (by kernel_rfl) (by kernel_rfl) (by kernel_rfl) (fun _ _ _ h => h) rfl (fun W hSw => ?_) (Swg) ?_
  · (try dsimp only at hSw); go_simp <;> with_reducible rfl
  try simp only [Act.put, List.setIfInBounds_toArray, List.set_cons_zero, List.set_cons_succ]
  refine wpAnyH_done (by kernel_rfl) ?_ _
  have hbreg : Below we.heap.size we wg := Swg.2
  clear S0 Swf hb9wf Swg hb9wg
  go_wp2_with fail
  go_ret
  exact ⟨by rw [HEND.out]; rfl, bthen HB2.out hbreg⟩
theorem fmeI_any (w : World) (x0 x1 x2 x3 x4 x5 x6 : Int) (hT : Tab8 w) : Calls Tryd.prog 14 #[.agg #[.int .i64 x0, .int .i64 x1, .int .i64 x2, .int .i64 x3, .int .i64 x4, .int .i64 x5, .int .i64 x6]] w fun e w' => e = .returned (.string (fmE ⟨x0, x1, x2, x3, x4, x5, x6⟩)) ∧ Below w.heap.size w w' := by
  cases he : evB ⟨x0, x1, x2, x3, x4, x5, x6⟩
  · exact fmeI_bad w x0 x1 x2 x3 x4 x5 x6 hT he
  · by_cases h2 : x3 = 2
    · exact fmeI_ext w x0 x1 x2 x3 x4 x5 x6 hT he h2
    · exact fmeI_all w x0 x1 x2 x3 x4 x5 x6 hT he h2
end Go.Proofs.YtgmdplhaofhliaaDoor
