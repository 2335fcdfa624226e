/- Chapter 8: FormatEvent of the model: kind 1 (gen_fme.py). -/
import Derived.Test.YtgmdplhaofhliaaDoorFmS0
namespace Go.Proofs.YtgmdplhaofhliaaDoor
open Go.RowKit
set_option linter.unusedVariables false
set_option maxRecDepth 100000 in
set_option maxHeartbeats 16000000 in
theorem fmeS_k1 (w : World) (x0 x1 x2 x4 x5 x6 : Int) (he : evB ⟨x0, x1, x2, 1, x4, x5, x6⟩ = true) : Calls Tryd.prog 12 #[.agg #[.int .i64 x0, .int .i64 x1, .int .i64 x2, .int .i64 1, .int .i64 x4, .int .i64 x5, .int .i64 x6]] w fun e w' => e = .returned (.string (fmE ⟨x0, x1, x2, 1, x4, x5, x6⟩)) ∧ Below w.heap.size w w' := by
  have hev := evB_facts he; dsimp only at hev
  obtain ⟨⟨a0, b0⟩, ⟨a1, b1⟩, ⟨a2, b2⟩, _, ⟨a4, b4⟩, ⟨a5, b5⟩, a6, b6⟩ := hev
  have HE := Lib.hid he; clear he
  obtain ⟨F0, hF0⟩ : ∃ F, fmI x0 = F := ⟨_, rfl⟩
  have hn0 := fmI_len x0; rw [hF0] at hn0; have HF0 := Lib.hid hF0; clear hF0
  obtain ⟨F1, hF1⟩ : ∃ F, fmI x1 = F := ⟨_, rfl⟩
  have hn1 := fmI_len x1; rw [hF1] at hn1; have HF1 := Lib.hid hF1; clear hF1
  obtain ⟨F2, hF2⟩ : ∃ F, fmI x2 = F := ⟨_, rfl⟩
  have hn2 := fmI_len x2; rw [hF2] at hn2; have HF2 := Lib.hid hF2; clear hF2
  obtain ⟨F4, hF4⟩ : ∃ F, fmI x4 = F := ⟨_, rfl⟩
  have hn4 := fmI_len x4; rw [hF4] at hn4; have HF4 := Lib.hid hF4; clear hF4
  obtain ⟨F5, hF5⟩ : ∃ F, fmI x5 = F := ⟨_, rfl⟩
  have hn5 := fmI_len x5; rw [hF5] at hn5; have HF5 := Lib.hid hF5; clear hF5
  obtain ⟨F6, hF6⟩ : ∃ F, fmI x6 = F := ⟨_, rfl⟩
  have hn6 := fmI_len x6; rw [hF6] at hn6; have HF6 := Lib.hid hF6; clear hF6
  obtain ⟨T1, hT1⟩ : ∃ T, F0 ++ (⟨#[46]⟩ : ByteArray) = T := ⟨_, rfl⟩
  have zT1 : T1.size ≤ 22 := by rw [← hT1, cat1]; omega
  have HT1 := Lib.hid hT1; clear hT1
  obtain ⟨T2, hT2⟩ : ∃ T, T1 ++ F1 = T := ⟨_, rfl⟩
  have zT2 : T2.size ≤ 43 := by rw [← hT2, cat_len]; omega
  have HT2 := Lib.hid hT2; clear hT2
  obtain ⟨T3, hT3⟩ : ∃ T, T2 ++ (⟨#[64]⟩ : ByteArray) = T := ⟨_, rfl⟩
  have zT3 : T3.size ≤ 44 := by rw [← hT3, cat1]; omega
  have HT3 := Lib.hid hT3; clear hT3
  obtain ⟨T4, hT4⟩ : ∃ T, T3 ++ F2 = T := ⟨_, rfl⟩
  have zT4 : T4.size ≤ 65 := by rw [← hT4, cat_len]; omega
  have HT4 := Lib.hid hT4; clear hT4
  obtain ⟨T5, hT5⟩ : ∃ T, T4 ++ (⟨#[32]⟩ : ByteArray) = T := ⟨_, rfl⟩
  have zT5 : T5.size ≤ 66 := by rw [← hT5, cat1]; omega
  have HT5 := Lib.hid hT5; clear hT5
  obtain ⟨T6, hT6⟩ : ∃ T, T5 ++ (⟨#[112, 108, 97, 99, 101, 100]⟩ : ByteArray) = T := ⟨_, rfl⟩
  have zT6 : T6.size ≤ 72 := by rw [← hT6, cat_len]; exact Nat.add_le_add zT5 (show (⟨#[112, 108, 97, 99, 101, 100]⟩ : ByteArray).size ≤ 6 by decide)
  have HT6 := Lib.hid hT6; clear hT6
  obtain ⟨T7, hT7⟩ : ∃ T, T6 ++ (⟨#[32]⟩ : ByteArray) = T := ⟨_, rfl⟩
  have zT7 : T7.size ≤ 73 := by rw [← hT7, cat1]; omega
  have HT7 := Lib.hid hT7; clear hT7
  obtain ⟨T8, hT8⟩ : ∃ T, T7 ++ F4 = T := ⟨_, rfl⟩
  have zT8 : T8.size ≤ 94 := by rw [← hT8, cat_len]; omega
  have HT8 := Lib.hid hT8; clear hT8
  obtain ⟨T9, hT9⟩ : ∃ T, T8 ++ (⟨#[32]⟩ : ByteArray) = T := ⟨_, rfl⟩
  have zT9 : T9.size ≤ 95 := by rw [← hT9, cat1]; omega
  have HT9 := Lib.hid hT9; clear hT9
  obtain ⟨TA, hTA⟩ : ∃ T, T9 ++ F5 = T := ⟨_, rfl⟩
  have zTA : TA.size ≤ 116 := by rw [← hTA, cat_len]; omega
  have HTA := Lib.hid hTA; clear hTA
  obtain ⟨TB, hTB⟩ : ∃ T, TA ++ (⟨#[32]⟩ : ByteArray) = T := ⟨_, rfl⟩
  have zTB : TB.size ≤ 117 := by rw [← hTB, cat1]; omega
  have HTB := Lib.hid hTB; clear hTB
  obtain ⟨TC, hTC⟩ : ∃ T, TB ++ F6 = T := ⟨_, rfl⟩
  have zTC : TC.size ≤ 138 := by rw [← hTC, cat_len]; omega
  have HTC := Lib.hid hTC; clear hTC
  have hend : fmE ⟨x0, x1, x2, 1, x4, x5, x6⟩ = TC := by rw [fmE_all HE.out (show (1 : Int) ≠ 2 by decide)]; unfold fmX; dsimp only; rw [HF0.out, HT1.out, HF1.out, HT2.out, HT3.out, HF2.out, HT4.out, HT5.out, show kindS 1 = (⟨#[112, 108, 97, 99, 101, 100]⟩ : ByteArray) from rfl, HT6.out, HT7.out, HF4.out, HT8.out, HT9.out, HF5.out, HTA.out, HTB.out, HF6.out, HTC.out]
  have HEND := Lib.hid hend; clear hend
  go_enter Tryd.func12, Tryd.ntmps12
  go_wp2_with (go_at_call 21; refine (evS_any _ x0 x1 x2 1 x4 x5 x6).mono ?_; rintro e w1 ⟨rfl, hb1⟩; rw [HE.out])
  have za := has_call (has_new w 34 #[.int .i64 x0, .int .i64 x1, .int .i64 x2, .int .i64 1, .int .i64 x4, .int .i64 x5, .int .i64 x6]) hb1
  have hb := bthen (balloc w (.cells #[.int .i64 x0, .int .i64 x1, .int .i64 x2, .int .i64 1, .int .i64 x4, .int .i64 x5, .int .i64 x6] 34)) hb1
  have HB1 := Lib.hid hb; clear hb1 hb
  have la := has_lt za
  have q0 := has_cell za 0 rfl; have q1 := has_cell za 1 rfl; have q2 := has_cell za 2 rfl; have q3 := has_cell za 3 rfl; have q4 := has_cell za 4 rfl; have q5 := has_cell za 5 rfl; have q6 := has_cell za 6 rfl
  clear za
  go_wp2_with fail
  have S0 : (fun W : World => (W.cell? ⟨w.heap.size, 0, none⟩ = some (.int .i64 x0) ∧ W.cell? ⟨w.heap.size, 1, none⟩ = some (.int .i64 x1) ∧ W.cell? ⟨w.heap.size, 2, none⟩ = some (.int .i64 x2) ∧ W.cell? ⟨w.heap.size, 3, none⟩ = some (.int .i64 1) ∧ W.cell? ⟨w.heap.size, 4, none⟩ = some (.int .i64 x4) ∧ W.cell? ⟨w.heap.size, 5, none⟩ = some (.int .i64 x5) ∧ W.cell? ⟨w.heap.size, 6, none⟩ = some (.int .i64 x6)) ∧ Below w1.heap.size w1 W) w1.drew := ⟨⟨q0, q1, q2, q3, q4, q5, q6⟩, (Below.refl _ _).drew⟩
  clear q0 q1 q2 q3 q4 q5 q6
  refine wp_region_held_drew (S := (fun W : World => (W.cell? ⟨w.heap.size, 0, none⟩ = some (.int .i64 x0) ∧ W.cell? ⟨w.heap.size, 1, none⟩ = some (.int .i64 x1) ∧ W.cell? ⟨w.heap.size, 2, none⟩ = some (.int .i64 x2) ∧ W.cell? ⟨w.heap.size, 3, none⟩ = some (.int .i64 1) ∧ W.cell? ⟨w.heap.size, 4, none⟩ = some (.int .i64 x4) ∧ W.cell? ⟨w.heap.size, 5, none⟩ = some (.int .i64 x5) ∧ W.cell? ⟨w.heap.size, 6, none⟩ = some (.int .i64 x6)) ∧ Below w1.heap.size w1 W)) (by kernel_rfl) S0 (fun _ => ?_)
  refine any_take (i := 0) (some 7) (.pointer (some ⟨w.heap.size, 0, none⟩)) rfl rfl (by kernel_rfl) (by kernel_rfl) (by kernel_rfl) (fun _ _ _ h => h) rfl (fun W hSw => ?_) (S0) ?_
  · (try dsimp only at hSw); go_simp <;> with_reducible rfl
  try simp only [Act.put, List.setIfInBounds_toArray, List.set_cons_zero, List.set_cons_succ]
  refine any_take (i := 1) (some 8) (.int .i64 x0) rfl rfl (by kernel_rfl) (by kernel_rfl) (by kernel_rfl) (fun _ _ _ h => h) rfl (fun W hSw => ?_) (S0) ?_
  · (try dsimp only at hSw); go_simp <;> with_reducible rfl
  try simp only [Act.put, List.setIfInBounds_toArray, List.set_cons_zero, List.set_cons_succ]
  refine any_take (i := 4) (some 11) (.pointer (some ⟨w.heap.size, 1, none⟩)) rfl rfl (by kernel_rfl) (by kernel_rfl) (by kernel_rfl) (fun _ _ _ h => h) rfl (fun W hSw => ?_) (S0) ?_
  · (try dsimp only at hSw); go_simp <;> with_reducible rfl
  try simp only [Act.put, List.setIfInBounds_toArray, List.set_cons_zero, List.set_cons_succ]
  refine any_take (i := 5) (some 12) (.int .i64 x1) rfl rfl (by kernel_rfl) (by kernel_rfl) (by kernel_rfl) (fun _ _ _ h => h) rfl (fun W hSw => ?_) (S0) ?_
  · (try dsimp only at hSw); go_simp <;> with_reducible rfl
  try simp only [Act.put, List.setIfInBounds_toArray, List.set_cons_zero, List.set_cons_succ]
  refine any_take (i := 9) (some 16) (.pointer (some ⟨w.heap.size, 2, none⟩)) rfl rfl (by kernel_rfl) (by kernel_rfl) (by kernel_rfl) (fun _ _ _ h => h) rfl (fun W hSw => ?_) (S0) ?_
  · (try dsimp only at hSw); go_simp <;> with_reducible rfl
  try simp only [Act.put, List.setIfInBounds_toArray, List.set_cons_zero, List.set_cons_succ]
  refine any_take (i := 10) (some 17) (.int .i64 x2) rfl rfl (by kernel_rfl) (by kernel_rfl) (by kernel_rfl) (fun _ _ _ h => h) rfl (fun W hSw => ?_) (S0) ?_
  · (try dsimp only at hSw); go_simp <;> with_reducible rfl
  try simp only [Act.put, List.setIfInBounds_toArray, List.set_cons_zero, List.set_cons_succ]
  refine any_take (i := 15) (some 22) (.pointer (some ⟨w.heap.size, 3, none⟩)) rfl rfl (by kernel_rfl) (by kernel_rfl) (by kernel_rfl) (fun _ _ _ h => h) rfl (fun W hSw => ?_) (S0) ?_
  · (try dsimp only at hSw); go_simp <;> with_reducible rfl
  try simp only [Act.put, List.setIfInBounds_toArray, List.set_cons_zero, List.set_cons_succ]
  refine any_take (i := 16) (some 23) (.int .i64 1) rfl rfl (by kernel_rfl) (by kernel_rfl) (by kernel_rfl) (fun _ _ _ h => h) rfl (fun W hSw => ?_) (S0) ?_
  · (try dsimp only at hSw); go_simp <;> with_reducible rfl
  try simp only [Act.put, List.setIfInBounds_toArray, List.set_cons_zero, List.set_cons_succ]
  refine any_take (i := 17) (some 24) (.int .i64 0) rfl rfl (by kernel_rfl) (by kernel_rfl) (by kernel_rfl) (fun _ _ _ h => h) rfl (fun W hSw => ?_) (S0) ?_
  · (try dsimp only at hSw); go_simp <;> rfl
  try simp only [Act.put, List.setIfInBounds_toArray, List.set_cons_zero, List.set_cons_succ]
  refine any_take (i := 22) (some 29) (.pointer (some ⟨w.heap.size, 4, none⟩)) rfl rfl (by kernel_rfl) (by kernel_rfl) (by kernel_rfl) (fun _ _ _ h => h) rfl (fun W hSw => ?_) (S0) ?_
  · (try dsimp only at hSw); go_simp <;> with_reducible rfl
  try simp only [Act.put, List.setIfInBounds_toArray, List.set_cons_zero, List.set_cons_succ]
  refine any_take (i := 23) (some 30) (.int .i64 x4) rfl rfl (by kernel_rfl) (by kernel_rfl) (by kernel_rfl) (fun _ _ _ h => h) rfl (fun W hSw => ?_) (S0) ?_
  · (try dsimp only at hSw); go_simp <;> with_reducible rfl
  try simp only [Act.put, List.setIfInBounds_toArray, List.set_cons_zero, List.set_cons_succ]
  refine wpAnyH_ready (rs := [2, 14]) (by kernel_rfl) (by simp) ?_
  refine (AllReadyH.cons rfl (fun K hK => ?_) (AllReadyH.cons rfl (fun K hK => ?_) AllReadyH.nil))
  · skip
    go_simp
    go_at_call 22
    refine (fmtS8 _ x0 (by omega) (by omega)).mono ?_
    rintro e v1 ⟨rfl, hb8⟩
    rw [HF0.out]
    have Sv1 : (fun W : World => (W.cell? ⟨w.heap.size, 0, none⟩ = some (.int .i64 x0) ∧ W.cell? ⟨w.heap.size, 1, none⟩ = some (.int .i64 x1) ∧ W.cell? ⟨w.heap.size, 2, none⟩ = some (.int .i64 x2) ∧ W.cell? ⟨w.heap.size, 3, none⟩ = some (.int .i64 1) ∧ W.cell? ⟨w.heap.size, 4, none⟩ = some (.int .i64 x4) ∧ W.cell? ⟨w.heap.size, 5, none⟩ = some (.int .i64 x5) ∧ W.cell? ⟨w.heap.size, 6, none⟩ = some (.int .i64 x6)) ∧ Below w1.heap.size w1 W) v1 := ⟨⟨(bold hb8 _ _ (Nat.lt_of_lt_of_le la S0.2.size)).trans S0.1.1, (bold hb8 _ _ (Nat.lt_of_lt_of_le la S0.2.size)).trans S0.1.2.1, (bold hb8 _ _ (Nat.lt_of_lt_of_le la S0.2.size)).trans S0.1.2.2.1, (bold hb8 _ _ (Nat.lt_of_lt_of_le la S0.2.size)).trans S0.1.2.2.2.1, (bold hb8 _ _ (Nat.lt_of_lt_of_le la S0.2.size)).trans S0.1.2.2.2.2.1, (bold hb8 _ _ (Nat.lt_of_lt_of_le la S0.2.size)).trans S0.1.2.2.2.2.2.1, (bold hb8 _ _ (Nat.lt_of_lt_of_le la S0.2.size)).trans S0.1.2.2.2.2.2.2⟩, bthen S0.2 hb8⟩
    clear hb8
    go_wp2_with fail
    refine hK.out _ _ Sv1 (fun _ => ?_)
    clear hK K
    try simp only [Act.put, List.setIfInBounds_toArray, List.set_cons_zero, List.set_cons_succ]
    refine any_take (i := 3) (some 10) (.string T1) rfl rfl (by kernel_rfl) (by kernel_rfl) (by kernel_rfl) (fun _ _ _ h => h) rfl (fun W hSw => ?_) (Sv1) ?_
    · (try dsimp only at hSw); go_simp; rw [if_neg (by first | omega | (have := (rfl : (⟨#[46]⟩ : ByteArray).size = 1); omega))]; rw [HT1.out]
    try simp only [Act.put, List.setIfInBounds_toArray, List.set_cons_zero, List.set_cons_succ]
    refine wpAnyH_ready (rs := [6, 14]) (by kernel_rfl) (by simp) ?_
    refine (AllReadyH.cons rfl (fun K hK => ?_) (AllReadyH.cons rfl (fun K hK => ?_) AllReadyH.nil))
    · skip
      go_simp
      go_at_call 22
      refine (fmtS8 _ x1 (by omega) (by omega)).mono ?_
      rintro e v2 ⟨rfl, hb8⟩
      rw [HF1.out]
      have Sv2 : (fun W : World => (W.cell? ⟨w.heap.size, 0, none⟩ = some (.int .i64 x0) ∧ W.cell? ⟨w.heap.size, 1, none⟩ = some (.int .i64 x1) ∧ W.cell? ⟨w.heap.size, 2, none⟩ = some (.int .i64 x2) ∧ W.cell? ⟨w.heap.size, 3, none⟩ = some (.int .i64 1) ∧ W.cell? ⟨w.heap.size, 4, none⟩ = some (.int .i64 x4) ∧ W.cell? ⟨w.heap.size, 5, none⟩ = some (.int .i64 x5) ∧ W.cell? ⟨w.heap.size, 6, none⟩ = some (.int .i64 x6)) ∧ Below w1.heap.size w1 W) v2 := ⟨⟨(bold hb8 _ _ (Nat.lt_of_lt_of_le la Sv1.2.size)).trans Sv1.1.1, (bold hb8 _ _ (Nat.lt_of_lt_of_le la Sv1.2.size)).trans Sv1.1.2.1, (bold hb8 _ _ (Nat.lt_of_lt_of_le la Sv1.2.size)).trans Sv1.1.2.2.1, (bold hb8 _ _ (Nat.lt_of_lt_of_le la Sv1.2.size)).trans Sv1.1.2.2.2.1, (bold hb8 _ _ (Nat.lt_of_lt_of_le la Sv1.2.size)).trans Sv1.1.2.2.2.2.1, (bold hb8 _ _ (Nat.lt_of_lt_of_le la Sv1.2.size)).trans Sv1.1.2.2.2.2.2.1, (bold hb8 _ _ (Nat.lt_of_lt_of_le la Sv1.2.size)).trans Sv1.1.2.2.2.2.2.2⟩, bthen Sv1.2 hb8⟩
      clear hb8
      go_wp2_with fail
      refine hK.out _ _ Sv2 (fun _ => ?_)
      clear hK K
      try simp only [Act.put, List.setIfInBounds_toArray, List.set_cons_zero, List.set_cons_succ]
      refine any_take (i := 7) (some 14) (.string T2) rfl rfl (by kernel_rfl) (by kernel_rfl) (by kernel_rfl) (fun _ _ _ h => h) rfl (fun W hSw => ?_) (Sv2) ?_
      · (try dsimp only at hSw); go_simp; rw [if_neg (by omega)]; rw [HT2.out]
      try simp only [Act.put, List.setIfInBounds_toArray, List.set_cons_zero, List.set_cons_succ]
      refine any_take (i := 8) (some 15) (.string T3) rfl rfl (by kernel_rfl) (by kernel_rfl) (by kernel_rfl) (fun _ _ _ h => h) rfl (fun W hSw => ?_) (Sv2) ?_
      · (try dsimp only at hSw); go_simp; rw [if_neg (by first | omega | (have := (rfl : (⟨#[64]⟩ : ByteArray).size = 1); omega))]; rw [HT3.out]
      try simp only [Act.put, List.setIfInBounds_toArray, List.set_cons_zero, List.set_cons_succ]
      refine wpAnyH_ready (rs := [11, 14]) (by kernel_rfl) (by simp) ?_
      refine (AllReadyH.cons rfl (fun K hK => ?_) (AllReadyH.cons rfl (fun K hK => ?_) AllReadyH.nil))
      · skip
        go_simp
        go_at_call 22
        refine (fmtS8 _ x2 (by omega) (by omega)).mono ?_
        rintro e v3 ⟨rfl, hb8⟩
        rw [HF2.out]
        have Sv3 : (fun W : World => (W.cell? ⟨w.heap.size, 0, none⟩ = some (.int .i64 x0) ∧ W.cell? ⟨w.heap.size, 1, none⟩ = some (.int .i64 x1) ∧ W.cell? ⟨w.heap.size, 2, none⟩ = some (.int .i64 x2) ∧ W.cell? ⟨w.heap.size, 3, none⟩ = some (.int .i64 1) ∧ W.cell? ⟨w.heap.size, 4, none⟩ = some (.int .i64 x4) ∧ W.cell? ⟨w.heap.size, 5, none⟩ = some (.int .i64 x5) ∧ W.cell? ⟨w.heap.size, 6, none⟩ = some (.int .i64 x6)) ∧ Below w1.heap.size w1 W) v3 := ⟨⟨(bold hb8 _ _ (Nat.lt_of_lt_of_le la Sv2.2.size)).trans Sv2.1.1, (bold hb8 _ _ (Nat.lt_of_lt_of_le la Sv2.2.size)).trans Sv2.1.2.1, (bold hb8 _ _ (Nat.lt_of_lt_of_le la Sv2.2.size)).trans Sv2.1.2.2.1, (bold hb8 _ _ (Nat.lt_of_lt_of_le la Sv2.2.size)).trans Sv2.1.2.2.2.1, (bold hb8 _ _ (Nat.lt_of_lt_of_le la Sv2.2.size)).trans Sv2.1.2.2.2.2.1, (bold hb8 _ _ (Nat.lt_of_lt_of_le la Sv2.2.size)).trans Sv2.1.2.2.2.2.2.1, (bold hb8 _ _ (Nat.lt_of_lt_of_le la Sv2.2.size)).trans Sv2.1.2.2.2.2.2.2⟩, bthen Sv2.2 hb8⟩
        clear hb8
        go_wp2_with fail
        refine hK.out _ _ Sv3 (fun _ => ?_)
        clear hK K
        try simp only [Act.put, List.setIfInBounds_toArray, List.set_cons_zero, List.set_cons_succ]
        refine any_take (i := 12) (some 19) (.string T4) rfl rfl (by kernel_rfl) (by kernel_rfl) (by kernel_rfl) (fun _ _ _ h => h) rfl (fun W hSw => ?_) (Sv3) ?_
        · (try dsimp only at hSw); go_simp; rw [if_neg (by omega)]; rw [HT4.out]
        try simp only [Act.put, List.setIfInBounds_toArray, List.set_cons_zero, List.set_cons_succ]
        refine any_take (i := 13) (some 20) (.string T5) rfl rfl (by kernel_rfl) (by kernel_rfl) (by kernel_rfl) (fun _ _ _ h => h) rfl (fun W hSw => ?_) (Sv3) ?_
        · (try dsimp only at hSw); go_simp; rw [if_neg (by first | omega | (have := (rfl : (⟨#[32]⟩ : ByteArray).size = 1); omega))]; rw [HT5.out]
        try simp only [Act.put, List.setIfInBounds_toArray, List.set_cons_zero, List.set_cons_succ]
        refine wpAnyH_ready (rs := [14, 24]) (by kernel_rfl) (by simp) ?_
        refine (AllReadyH.cons rfl (fun K hK => ?_) (AllReadyH.cons rfl (fun K hK => ?_) AllReadyH.nil))
        · skip
          go_simp
          try go_wp2_with fail
          generalize hX9 : (v3.alloc (.cells #[.string (⟨#[112, 108, 97, 99, 101, 100]⟩ : ByteArray), .string (⟨#[101, 120, 116, 101, 110, 100, 101, 100]⟩ : ByteArray), .string (⟨#[116, 97, 107, 101, 110]⟩ : ByteArray), .string (⟨#[102, 101, 116, 99, 104, 101, 100]⟩ : ByteArray)] 9)) = v4
          have hb8 : Below v3.heap.size v3 v4 := by rw [← hX9]; exact balloc _ _
          have hnw : Has v4 v3.heap.size 9 #[.string (⟨#[112, 108, 97, 99, 101, 100]⟩ : ByteArray), .string (⟨#[101, 120, 116, 101, 110, 100, 101, 100]⟩ : ByteArray), .string (⟨#[116, 97, 107, 101, 110]⟩ : ByteArray), .string (⟨#[102, 101, 116, 99, 104, 101, 100]⟩ : ByteArray)] := by rw [← hX9]; exact has_new _ _ _
          clear hX9
          have Sv4o : (fun W : World => (W.cell? ⟨w.heap.size, 0, none⟩ = some (.int .i64 x0) ∧ W.cell? ⟨w.heap.size, 1, none⟩ = some (.int .i64 x1) ∧ W.cell? ⟨w.heap.size, 2, none⟩ = some (.int .i64 x2) ∧ W.cell? ⟨w.heap.size, 3, none⟩ = some (.int .i64 1) ∧ W.cell? ⟨w.heap.size, 4, none⟩ = some (.int .i64 x4) ∧ W.cell? ⟨w.heap.size, 5, none⟩ = some (.int .i64 x5) ∧ W.cell? ⟨w.heap.size, 6, none⟩ = some (.int .i64 x6)) ∧ Below w1.heap.size w1 W) v4 := ⟨⟨(bold hb8 _ _ (Nat.lt_of_lt_of_le la Sv3.2.size)).trans Sv3.1.1, (bold hb8 _ _ (Nat.lt_of_lt_of_le la Sv3.2.size)).trans Sv3.1.2.1, (bold hb8 _ _ (Nat.lt_of_lt_of_le la Sv3.2.size)).trans Sv3.1.2.2.1, (bold hb8 _ _ (Nat.lt_of_lt_of_le la Sv3.2.size)).trans Sv3.1.2.2.2.1, (bold hb8 _ _ (Nat.lt_of_lt_of_le la Sv3.2.size)).trans Sv3.1.2.2.2.2.1, (bold hb8 _ _ (Nat.lt_of_lt_of_le la Sv3.2.size)).trans Sv3.1.2.2.2.2.2.1, (bold hb8 _ _ (Nat.lt_of_lt_of_le la Sv3.2.size)).trans Sv3.1.2.2.2.2.2.2⟩, bthen Sv3.2 hb8⟩
          have Sv4 : (fun W : World => (W.cell? ⟨v3.heap.size, 0, none⟩ = some (.string (⟨#[112, 108, 97, 99, 101, 100]⟩ : ByteArray)) ∧ W.cell? ⟨w.heap.size, 0, none⟩ = some (.int .i64 x0) ∧ W.cell? ⟨w.heap.size, 1, none⟩ = some (.int .i64 x1) ∧ W.cell? ⟨w.heap.size, 2, none⟩ = some (.int .i64 x2) ∧ W.cell? ⟨w.heap.size, 3, none⟩ = some (.int .i64 1) ∧ W.cell? ⟨w.heap.size, 4, none⟩ = some (.int .i64 x4) ∧ W.cell? ⟨w.heap.size, 5, none⟩ = some (.int .i64 x5) ∧ W.cell? ⟨w.heap.size, 6, none⟩ = some (.int .i64 x6)) ∧ Below w1.heap.size w1 W) v4 := ⟨⟨has_cell hnw 0 rfl, Sv4o.1⟩, Sv4o.2⟩
          have lnv4 : v3.heap.size < v4.heap.size := has_lt hnw
          refine hK.out _ _ Sv4o (fun _ => ?_)
          clear hK K hb8 hnw Sv4o
          try simp only [Act.put, List.setIfInBounds_toArray, List.set_cons_zero, List.set_cons_succ]
          refine wpAnyH_strong (S2 := (fun W : World => (W.cell? ⟨v3.heap.size, 0, none⟩ = some (.string (⟨#[112, 108, 97, 99, 101, 100]⟩ : ByteArray)) ∧ W.cell? ⟨w.heap.size, 0, none⟩ = some (.int .i64 x0) ∧ W.cell? ⟨w.heap.size, 1, none⟩ = some (.int .i64 x1) ∧ W.cell? ⟨w.heap.size, 2, none⟩ = some (.int .i64 x2) ∧ W.cell? ⟨w.heap.size, 3, none⟩ = some (.int .i64 1) ∧ W.cell? ⟨w.heap.size, 4, none⟩ = some (.int .i64 x4) ∧ W.cell? ⟨w.heap.size, 5, none⟩ = some (.int .i64 x5) ∧ W.cell? ⟨w.heap.size, 6, none⟩ = some (.int .i64 x6)) ∧ Below w1.heap.size w1 W)) (fun W h => ⟨h.1.2, h.2⟩) ?_
          refine any_take (i := 18) (some 25) (.pointer (some ⟨v3.heap.size, 0, none⟩)) rfl rfl (by kernel_rfl) (by kernel_rfl) (by kernel_rfl) (fun _ _ _ h => h) rfl (fun W hSw => ?_) (Sv4) ?_
          · (try dsimp only at hSw); go_simp <;> with_reducible rfl
          try simp only [Act.put, List.setIfInBounds_toArray, List.set_cons_zero, List.set_cons_succ]
          refine any_take (i := 19) (some 26) (.string (⟨#[112, 108, 97, 99, 101, 100]⟩ : ByteArray)) rfl rfl (by kernel_rfl) (by kernel_rfl) (by kernel_rfl) (fun _ _ _ h => h) rfl (fun W hSw => ?_) (Sv4) ?_
          · (try dsimp only at hSw); go_simp <;> with_reducible rfl
          try simp only [Act.put, List.setIfInBounds_toArray, List.set_cons_zero, List.set_cons_succ]
          refine any_take (i := 20) (some 27) (.string T6) rfl rfl (by kernel_rfl) (by kernel_rfl) (by kernel_rfl) (fun _ _ _ h => h) rfl (fun W hSw => ?_) (Sv4) ?_
          · (try dsimp only at hSw); go_simp; rw [if_neg (by first | omega | (have := (rfl : (⟨#[112, 108, 97, 99, 101, 100]⟩ : ByteArray).size = 6); omega))]; rw [HT6.out]
          try simp only [Act.put, List.setIfInBounds_toArray, List.set_cons_zero, List.set_cons_succ]
          refine any_take (i := 21) (some 28) (.string T7) rfl rfl (by kernel_rfl) (by kernel_rfl) (by kernel_rfl) (fun _ _ _ h => h) rfl (fun W hSw => ?_) (Sv4) ?_
          · (try dsimp only at hSw); go_simp; rw [if_neg (by first | omega | (have := (rfl : (⟨#[32]⟩ : ByteArray).size = 1); omega))]; rw [HT7.out]
          try simp only [Act.put, List.setIfInBounds_toArray, List.set_cons_zero, List.set_cons_succ]
          refine wpAnyH_ready (rs := [24]) (by kernel_rfl) (by simp) ?_
          refine (AllReadyH.cons rfl (fun K hK => ?_) AllReadyH.nil)
          go_simp
          go_at_call 22
          refine (fmtS8 _ x4 (by omega) (by omega)).mono ?_
          rintro e v5 ⟨rfl, hb8⟩
          rw [HF4.out]
          have Sv5 : (fun W : World => (W.cell? ⟨v3.heap.size, 0, none⟩ = some (.string (⟨#[112, 108, 97, 99, 101, 100]⟩ : ByteArray)) ∧ W.cell? ⟨w.heap.size, 0, none⟩ = some (.int .i64 x0) ∧ W.cell? ⟨w.heap.size, 1, none⟩ = some (.int .i64 x1) ∧ W.cell? ⟨w.heap.size, 2, none⟩ = some (.int .i64 x2) ∧ W.cell? ⟨w.heap.size, 3, none⟩ = some (.int .i64 1) ∧ W.cell? ⟨w.heap.size, 4, none⟩ = some (.int .i64 x4) ∧ W.cell? ⟨w.heap.size, 5, none⟩ = some (.int .i64 x5) ∧ W.cell? ⟨w.heap.size, 6, none⟩ = some (.int .i64 x6)) ∧ Below w1.heap.size w1 W) v5 := ⟨⟨(bold hb8 _ _ lnv4).trans Sv4.1.1, (bold hb8 _ _ (Nat.lt_of_lt_of_le la Sv4.2.size)).trans Sv4.1.2.1, (bold hb8 _ _ (Nat.lt_of_lt_of_le la Sv4.2.size)).trans Sv4.1.2.2.1, (bold hb8 _ _ (Nat.lt_of_lt_of_le la Sv4.2.size)).trans Sv4.1.2.2.2.1, (bold hb8 _ _ (Nat.lt_of_lt_of_le la Sv4.2.size)).trans Sv4.1.2.2.2.2.1, (bold hb8 _ _ (Nat.lt_of_lt_of_le la Sv4.2.size)).trans Sv4.1.2.2.2.2.2.1, (bold hb8 _ _ (Nat.lt_of_lt_of_le la Sv4.2.size)).trans Sv4.1.2.2.2.2.2.2.1, (bold hb8 _ _ (Nat.lt_of_lt_of_le la Sv4.2.size)).trans Sv4.1.2.2.2.2.2.2.2⟩, bthen Sv4.2 hb8⟩
          have lnv5 : v3.heap.size < v5.heap.size := Nat.lt_of_lt_of_le lnv4 hb8.size
          clear hb8
          go_wp2_with fail
          refine hK.out _ _ Sv5 (fun _ => ?_)
          clear hK K
          try simp only [Act.put, List.setIfInBounds_toArray, List.set_cons_zero, List.set_cons_succ]
          refine any_take (i := 25) (some 32) (.string T8) rfl rfl (by kernel_rfl) (by kernel_rfl) (by kernel_rfl) (fun _ _ _ h => h) rfl (fun W hSw => ?_) (Sv5) ?_
          · (try dsimp only at hSw); go_simp; rw [if_neg (by omega)]; rw [HT8.out]
          try simp only [Act.put, List.setIfInBounds_toArray, List.set_cons_zero, List.set_cons_succ]
          refine any_take (i := 26) (some 3) (.string T8) rfl rfl (by kernel_rfl) (by kernel_rfl) (by kernel_rfl) (fun _ _ _ h => h) rfl (fun W hSw => ?_) (Sv5) ?_
          · (try dsimp only at hSw); go_simp <;> with_reducible rfl
          try simp only [Act.put, List.setIfInBounds_toArray, List.set_cons_zero, List.set_cons_succ]
          refine wpAnyH_done (by kernel_rfl) ?_ _
          have q0 := Sv5.1.2.1; have q1 := Sv5.1.2.2.1; have q2 := Sv5.1.2.2.2.1; have q3 := Sv5.1.2.2.2.2.1; have q4 := Sv5.1.2.2.2.2.2.1; have q5 := Sv5.1.2.2.2.2.2.2.1; have q6 := Sv5.1.2.2.2.2.2.2.2
          have hbreg := Sv5.2
          have la2 : w.heap.size < v5.heap.size := Nat.lt_of_lt_of_le la hbreg.size
          have HB2 := Lib.hid (bthen HB1.out hbreg); clear hbreg
          go_wp2_with fail
          have S0 : (fun W : World => (W.cell? ⟨w.heap.size, 5, none⟩ = some (.int .i64 x5) ∧ W.cell? ⟨w.heap.size, 6, none⟩ = some (.int .i64 x6)) ∧ Below v5.heap.size v5 W) v5.drew := ⟨⟨q5, q6⟩, (Below.refl _ _).drew⟩
          clear q5 q6
          refine wp_region_held_drew (S := (fun W : World => (W.cell? ⟨w.heap.size, 5, none⟩ = some (.int .i64 x5) ∧ W.cell? ⟨w.heap.size, 6, none⟩ = some (.int .i64 x6)) ∧ Below v5.heap.size v5 W)) (by kernel_rfl) S0 (fun _ => ?_)
          refine any_take (i := 0) (some 37) (.string T8) rfl rfl (by kernel_rfl) (by kernel_rfl) (by kernel_rfl) (fun _ _ _ h => h) rfl (fun W hSw => ?_) (S0) ?_
          · (try dsimp only at hSw); go_simp <;> with_reducible rfl
          try simp only [Act.put, List.setIfInBounds_toArray, List.set_cons_zero, List.set_cons_succ]
          refine any_take (i := 1) (some 38) (.string T9) rfl rfl (by kernel_rfl) (by kernel_rfl) (by kernel_rfl) (fun _ _ _ h => h) rfl (fun W hSw => ?_) (S0) ?_
          · (try dsimp only at hSw); go_simp; rw [if_neg (by first | omega | (have := (rfl : (⟨#[32]⟩ : ByteArray).size = 1); omega))]; rw [HT9.out]
          try simp only [Act.put, List.setIfInBounds_toArray, List.set_cons_zero, List.set_cons_succ]
          refine any_take (i := 2) (some 39) (.pointer (some ⟨w.heap.size, 5, none⟩)) rfl rfl (by kernel_rfl) (by kernel_rfl) (by kernel_rfl) (fun _ _ _ h => h) rfl (fun W hSw => ?_) (S0) ?_
          · (try dsimp only at hSw); go_simp <;> with_reducible rfl
          try simp only [Act.put, List.setIfInBounds_toArray, List.set_cons_zero, List.set_cons_succ]
          refine any_take (i := 3) (some 40) (.int .i64 x5) rfl rfl (by kernel_rfl) (by kernel_rfl) (by kernel_rfl) (fun _ _ _ h => h) rfl (fun W hSw => ?_) (S0) ?_
          · (try dsimp only at hSw); go_simp <;> with_reducible rfl
          try simp only [Act.put, List.setIfInBounds_toArray, List.set_cons_zero, List.set_cons_succ]
          refine any_take (i := 7) (some 44) (.pointer (some ⟨w.heap.size, 6, none⟩)) rfl rfl (by kernel_rfl) (by kernel_rfl) (by kernel_rfl) (fun _ _ _ h => h) rfl (fun W hSw => ?_) (S0) ?_
          · (try dsimp only at hSw); go_simp <;> with_reducible rfl
          try simp only [Act.put, List.setIfInBounds_toArray, List.set_cons_zero, List.set_cons_succ]
          refine any_take (i := 8) (some 45) (.int .i64 x6) rfl rfl (by kernel_rfl) (by kernel_rfl) (by kernel_rfl) (fun _ _ _ h => h) rfl (fun W hSw => ?_) (S0) ?_
          · (try dsimp only at hSw); go_simp <;> with_reducible rfl
          try simp only [Act.put, List.setIfInBounds_toArray, List.set_cons_zero, List.set_cons_succ]
          refine wpAnyH_ready (rs := [4]) (by kernel_rfl) (by simp) ?_
          refine AllReadyH.cons rfl (fun K hK => ?_) AllReadyH.nil
          go_simp
          go_at_call 22
          refine (fmtS8 _ x5 (by omega) (by omega)).mono ?_
          rintro e wf ⟨rfl, hb8⟩
          rw [HF5.out]
          have hb9wf : Below v5.heap.size v5 wf := bthen ((Below.refl _ _).drew : Below v5.heap.size v5 v5.drew) hb8
          have Swf : (fun W : World => (W.cell? ⟨w.heap.size, 5, none⟩ = some (.int .i64 x5) ∧ W.cell? ⟨w.heap.size, 6, none⟩ = some (.int .i64 x6)) ∧ Below v5.heap.size v5 W) wf := ⟨⟨(bold hb9wf _ _ (la2)).trans S0.1.1, (bold hb9wf _ _ (la2)).trans S0.1.2⟩, hb9wf⟩
          clear hb8
          go_wp2_with fail
          refine hK.out _ _ Swf (fun _ => ?_)
          clear hK K
          try simp only [Act.put, List.setIfInBounds_toArray, List.set_cons_zero, List.set_cons_succ]
          refine any_take (i := 5) (some 42) (.string TA) rfl rfl (by kernel_rfl) (by kernel_rfl) (by kernel_rfl) (fun _ _ _ h => h) rfl (fun W hSw => ?_) (Swf) ?_
          · (try dsimp only at hSw); go_simp; rw [if_neg (by omega)]; rw [HTA.out]
          try simp only [Act.put, List.setIfInBounds_toArray, List.set_cons_zero, List.set_cons_succ]
          refine any_take (i := 6) (some 43) (.string TB) rfl rfl (by kernel_rfl) (by kernel_rfl) (by kernel_rfl) (fun _ _ _ h => h) rfl (fun W hSw => ?_) (Swf) ?_
          · (try dsimp only at hSw); go_simp; rw [if_neg (by first | omega | (have := (rfl : (⟨#[32]⟩ : ByteArray).size = 1); omega))]; rw [HTB.out]
          try simp only [Act.put, List.setIfInBounds_toArray, List.set_cons_zero, List.set_cons_succ]
          refine wpAnyH_ready (rs := [9]) (by kernel_rfl) (by simp) ?_
          refine AllReadyH.cons rfl (fun K hK => ?_) AllReadyH.nil
          go_simp
          go_at_call 22
          refine (fmtS8 _ x6 (by omega) (by omega)).mono ?_
          rintro e wg ⟨rfl, hb8⟩
          rw [HF6.out]
          have hb9wg : Below v5.heap.size v5 wg := bthen Swf.2 hb8
          have Swg : (fun W : World => (W.cell? ⟨w.heap.size, 5, none⟩ = some (.int .i64 x5) ∧ W.cell? ⟨w.heap.size, 6, none⟩ = some (.int .i64 x6)) ∧ Below v5.heap.size v5 W) wg := ⟨⟨(bold hb9wg _ _ (la2)).trans S0.1.1, (bold hb9wg _ _ (la2)).trans S0.1.2⟩, hb9wg⟩
          clear hb8
          go_wp2_with fail
          refine hK.out _ _ Swg (fun _ => ?_)
          clear hK K
          try simp only [Act.put, List.setIfInBounds_toArray, List.set_cons_zero, List.set_cons_succ]
          refine any_take (i := 10) (some 47) (.string TC) rfl rfl (by kernel_rfl) (by kernel_rfl) (by kernel_rfl) (fun _ _ _ h => h) rfl (fun W hSw => ?_) (Swg) ?_
          · (try dsimp only at hSw); go_simp; rw [if_neg (by omega)]; rw [HTC.out]
          try simp only [Act.put, List.setIfInBounds_toArray, List.set_cons_zero, List.set_cons_succ]
          refine any_take (i := 11) (some 2) (.string TC) rfl rfl (by kernel_rfl) (by kernel_rfl) (by kernel_rfl) (fun _ _ _ h => h) rfl (fun W hSw => ?_) (Swg) ?_
          · (try dsimp only at hSw); go_simp <;> with_reducible rfl
          try simp only [Act.put, List.setIfInBounds_toArray, List.set_cons_zero, List.set_cons_succ]
          refine wpAnyH_done (by kernel_rfl) ?_ _
          have hbreg : Below v5.heap.size v5 wg := Swg.2
          clear S0 Swf hb9wf Swg hb9wg
          go_wp2_with fail
          go_ret
          exact ⟨by rw [HEND.out]; rfl, bthen HB2.out hbreg⟩
        · skip
          go_simp
          go_at_call 22
          refine (fmtS8 _ x4 (by omega) (by omega)).mono ?_
          rintro e v6 ⟨rfl, hb8⟩
          rw [HF4.out]
          have Sv6 : (fun W : World => (W.cell? ⟨w.heap.size, 0, none⟩ = some (.int .i64 x0) ∧ W.cell? ⟨w.heap.size, 1, none⟩ = some (.int .i64 x1) ∧ W.cell? ⟨w.heap.size, 2, none⟩ = some (.int .i64 x2) ∧ W.cell? ⟨w.heap.size, 3, none⟩ = some (.int .i64 1) ∧ W.cell? ⟨w.heap.size, 4, none⟩ = some (.int .i64 x4) ∧ W.cell? ⟨w.heap.size, 5, none⟩ = some (.int .i64 x5) ∧ W.cell? ⟨w.heap.size, 6, none⟩ = some (.int .i64 x6)) ∧ Below w1.heap.size w1 W) v6 := ⟨⟨(bold hb8 _ _ (Nat.lt_of_lt_of_le la Sv3.2.size)).trans Sv3.1.1, (bold hb8 _ _ (Nat.lt_of_lt_of_le la Sv3.2.size)).trans Sv3.1.2.1, (bold hb8 _ _ (Nat.lt_of_lt_of_le la Sv3.2.size)).trans Sv3.1.2.2.1, (bold hb8 _ _ (Nat.lt_of_lt_of_le la Sv3.2.size)).trans Sv3.1.2.2.2.1, (bold hb8 _ _ (Nat.lt_of_lt_of_le la Sv3.2.size)).trans Sv3.1.2.2.2.2.1, (bold hb8 _ _ (Nat.lt_of_lt_of_le la Sv3.2.size)).trans Sv3.1.2.2.2.2.2.1, (bold hb8 _ _ (Nat.lt_of_lt_of_le la Sv3.2.size)).trans Sv3.1.2.2.2.2.2.2⟩, bthen Sv3.2 hb8⟩
          clear hb8
          go_wp2_with fail
          refine hK.out _ _ Sv6 (fun _ => ?_)
          clear hK K
          try simp only [Act.put, List.setIfInBounds_toArray, List.set_cons_zero, List.set_cons_succ]
          refine wpAnyH_ready (rs := [14]) (by kernel_rfl) (by simp) ?_
          refine (AllReadyH.cons rfl (fun K hK => ?_) AllReadyH.nil)
          go_simp
          try go_wp2_with fail
          generalize hX9 : (v6.alloc (.cells #[.string (⟨#[112, 108, 97, 99, 101, 100]⟩ : ByteArray), .string (⟨#[101, 120, 116, 101, 110, 100, 101, 100]⟩ : ByteArray), .string (⟨#[116, 97, 107, 101, 110]⟩ : ByteArray), .string (⟨#[102, 101, 116, 99, 104, 101, 100]⟩ : ByteArray)] 9)) = v7
          have hb8 : Below v6.heap.size v6 v7 := by rw [← hX9]; exact balloc _ _
          have hnw : Has v7 v6.heap.size 9 #[.string (⟨#[112, 108, 97, 99, 101, 100]⟩ : ByteArray), .string (⟨#[101, 120, 116, 101, 110, 100, 101, 100]⟩ : ByteArray), .string (⟨#[116, 97, 107, 101, 110]⟩ : ByteArray), .string (⟨#[102, 101, 116, 99, 104, 101, 100]⟩ : ByteArray)] := by rw [← hX9]; exact has_new _ _ _
          clear hX9
          have Sv7o : (fun W : World => (W.cell? ⟨w.heap.size, 0, none⟩ = some (.int .i64 x0) ∧ W.cell? ⟨w.heap.size, 1, none⟩ = some (.int .i64 x1) ∧ W.cell? ⟨w.heap.size, 2, none⟩ = some (.int .i64 x2) ∧ W.cell? ⟨w.heap.size, 3, none⟩ = some (.int .i64 1) ∧ W.cell? ⟨w.heap.size, 4, none⟩ = some (.int .i64 x4) ∧ W.cell? ⟨w.heap.size, 5, none⟩ = some (.int .i64 x5) ∧ W.cell? ⟨w.heap.size, 6, none⟩ = some (.int .i64 x6)) ∧ Below w1.heap.size w1 W) v7 := ⟨⟨(bold hb8 _ _ (Nat.lt_of_lt_of_le la Sv6.2.size)).trans Sv6.1.1, (bold hb8 _ _ (Nat.lt_of_lt_of_le la Sv6.2.size)).trans Sv6.1.2.1, (bold hb8 _ _ (Nat.lt_of_lt_of_le la Sv6.2.size)).trans Sv6.1.2.2.1, (bold hb8 _ _ (Nat.lt_of_lt_of_le la Sv6.2.size)).trans Sv6.1.2.2.2.1, (bold hb8 _ _ (Nat.lt_of_lt_of_le la Sv6.2.size)).trans Sv6.1.2.2.2.2.1, (bold hb8 _ _ (Nat.lt_of_lt_of_le la Sv6.2.size)).trans Sv6.1.2.2.2.2.2.1, (bold hb8 _ _ (Nat.lt_of_lt_of_le la Sv6.2.size)).trans Sv6.1.2.2.2.2.2.2⟩, bthen Sv6.2 hb8⟩
          have Sv7 : (fun W : World => (W.cell? ⟨v6.heap.size, 0, none⟩ = some (.string (⟨#[112, 108, 97, 99, 101, 100]⟩ : ByteArray)) ∧ W.cell? ⟨w.heap.size, 0, none⟩ = some (.int .i64 x0) ∧ W.cell? ⟨w.heap.size, 1, none⟩ = some (.int .i64 x1) ∧ W.cell? ⟨w.heap.size, 2, none⟩ = some (.int .i64 x2) ∧ W.cell? ⟨w.heap.size, 3, none⟩ = some (.int .i64 1) ∧ W.cell? ⟨w.heap.size, 4, none⟩ = some (.int .i64 x4) ∧ W.cell? ⟨w.heap.size, 5, none⟩ = some (.int .i64 x5) ∧ W.cell? ⟨w.heap.size, 6, none⟩ = some (.int .i64 x6)) ∧ Below w1.heap.size w1 W) v7 := ⟨⟨has_cell hnw 0 rfl, Sv7o.1⟩, Sv7o.2⟩
          have lnv7 : v6.heap.size < v7.heap.size := has_lt hnw
          refine hK.out _ _ Sv7o (fun _ => ?_)
          clear hK K hb8 hnw Sv7o
          try simp only [Act.put, List.setIfInBounds_toArray, List.set_cons_zero, List.set_cons_succ]
          refine wpAnyH_strong (S2 := (fun W : World => (W.cell? ⟨v6.heap.size, 0, none⟩ = some (.string (⟨#[112, 108, 97, 99, 101, 100]⟩ : ByteArray)) ∧ W.cell? ⟨w.heap.size, 0, none⟩ = some (.int .i64 x0) ∧ W.cell? ⟨w.heap.size, 1, none⟩ = some (.int .i64 x1) ∧ W.cell? ⟨w.heap.size, 2, none⟩ = some (.int .i64 x2) ∧ W.cell? ⟨w.heap.size, 3, none⟩ = some (.int .i64 1) ∧ W.cell? ⟨w.heap.size, 4, none⟩ = some (.int .i64 x4) ∧ W.cell? ⟨w.heap.size, 5, none⟩ = some (.int .i64 x5) ∧ W.cell? ⟨w.heap.size, 6, none⟩ = some (.int .i64 x6)) ∧ Below w1.heap.size w1 W)) (fun W h => ⟨h.1.2, h.2⟩) ?_
          refine any_take (i := 18) (some 25) (.pointer (some ⟨v6.heap.size, 0, none⟩)) rfl rfl (by kernel_rfl) (by kernel_rfl) (by kernel_rfl) (fun _ _ _ h => h) rfl (fun W hSw => ?_) (Sv7) ?_
          · (try dsimp only at hSw); go_simp <;> with_reducible rfl
          try simp only [Act.put, List.setIfInBounds_toArray, List.set_cons_zero, List.set_cons_succ]
          refine any_take (i := 19) (some 26) (.string (⟨#[112, 108, 97, 99, 101, 100]⟩ : ByteArray)) rfl rfl (by kernel_rfl) (by kernel_rfl) (by kernel_rfl) (fun _ _ _ h => h) rfl (fun W hSw => ?_) (Sv7) ?_
          · (try dsimp only at hSw); go_simp <;> with_reducible rfl
          try simp only [Act.put, List.setIfInBounds_toArray, List.set_cons_zero, List.set_cons_succ]
          refine any_take (i := 20) (some 27) (.string T6) rfl rfl (by kernel_rfl) (by kernel_rfl) (by kernel_rfl) (fun _ _ _ h => h) rfl (fun W hSw => ?_) (Sv7) ?_
          · (try dsimp only at hSw); go_simp; rw [if_neg (by first | omega | (have := (rfl : (⟨#[112, 108, 97, 99, 101, 100]⟩ : ByteArray).size = 6); omega))]; rw [HT6.out]
          try simp only [Act.put, List.setIfInBounds_toArray, List.set_cons_zero, List.set_cons_succ]
          refine any_take (i := 21) (some 28) (.string T7) rfl rfl (by kernel_rfl) (by kernel_rfl) (by kernel_rfl) (fun _ _ _ h => h) rfl (fun W hSw => ?_) (Sv7) ?_
          · (try dsimp only at hSw); go_simp; rw [if_neg (by first | omega | (have := (rfl : (⟨#[32]⟩ : ByteArray).size = 1); omega))]; rw [HT7.out]
          try simp only [Act.put, List.setIfInBounds_toArray, List.set_cons_zero, List.set_cons_succ]
          refine any_take (i := 25) (some 32) (.string T8) rfl rfl (by kernel_rfl) (by kernel_rfl) (by kernel_rfl) (fun _ _ _ h => h) rfl (fun W hSw => ?_) (Sv7) ?_
          · (try dsimp only at hSw); go_simp; rw [if_neg (by omega)]; rw [HT8.out]
          try simp only [Act.put, List.setIfInBounds_toArray, List.set_cons_zero, List.set_cons_succ]
          refine any_take (i := 26) (some 3) (.string T8) rfl rfl (by kernel_rfl) (by kernel_rfl) (by kernel_rfl) (fun _ _ _ h => h) rfl (fun W hSw => ?_) (Sv7) ?_
          · (try dsimp only at hSw); go_simp <;> with_reducible rfl
          try simp only [Act.put, List.setIfInBounds_toArray, List.set_cons_zero, List.set_cons_succ]
          refine wpAnyH_done (by kernel_rfl) ?_ _
          have q0 := Sv7.1.2.1; have q1 := Sv7.1.2.2.1; have q2 := Sv7.1.2.2.2.1; have q3 := Sv7.1.2.2.2.2.1; have q4 := Sv7.1.2.2.2.2.2.1; have q5 := Sv7.1.2.2.2.2.2.2.1; have q6 := Sv7.1.2.2.2.2.2.2.2
          have hbreg := Sv7.2
          have la2 : w.heap.size < v7.heap.size := Nat.lt_of_lt_of_le la hbreg.size
          have HB2 := Lib.hid (bthen HB1.out hbreg); clear hbreg
          go_wp2_with fail
          have S0 : (fun W : World => (W.cell? ⟨w.heap.size, 5, none⟩ = some (.int .i64 x5) ∧ W.cell? ⟨w.heap.size, 6, none⟩ = some (.int .i64 x6)) ∧ Below v7.heap.size v7 W) v7.drew := ⟨⟨q5, q6⟩, (Below.refl _ _).drew⟩
          clear q5 q6
          refine wp_region_held_drew (S := (fun W : World => (W.cell? ⟨w.heap.size, 5, none⟩ = some (.int .i64 x5) ∧ W.cell? ⟨w.heap.size, 6, none⟩ = some (.int .i64 x6)) ∧ Below v7.heap.size v7 W)) (by kernel_rfl) S0 (fun _ => ?_)
          refine any_take (i := 0) (some 37) (.string T8) rfl rfl (by kernel_rfl) (by kernel_rfl) (by kernel_rfl) (fun _ _ _ h => h) rfl (fun W hSw => ?_) (S0) ?_
          · (try dsimp only at hSw); go_simp <;> with_reducible rfl
          try simp only [Act.put, List.setIfInBounds_toArray, List.set_cons_zero, List.set_cons_succ]
          refine any_take (i := 1) (some 38) (.string T9) rfl rfl (by kernel_rfl) (by kernel_rfl) (by kernel_rfl) (fun _ _ _ h => h) rfl (fun W hSw => ?_) (S0) ?_
          · (try dsimp only at hSw); go_simp; rw [if_neg (by first | omega | (have := (rfl : (⟨#[32]⟩ : ByteArray).size = 1); omega))]; rw [HT9.out]
          try simp only [Act.put, List.setIfInBounds_toArray, List.set_cons_zero, List.set_cons_succ]
          refine any_take (i := 2) (some 39) (.pointer (some ⟨w.heap.size, 5, none⟩)) rfl rfl (by kernel_rfl) (by kernel_rfl) (by kernel_rfl) (fun _ _ _ h => h) rfl (fun W hSw => ?_) (S0) ?_
          · (try dsimp only at hSw); go_simp <;> with_reducible rfl
          try simp only [Act.put, List.setIfInBounds_toArray, List.set_cons_zero, List.set_cons_succ]
          refine any_take (i := 3) (some 40) (.int .i64 x5) rfl rfl (by kernel_rfl) (by kernel_rfl) (by kernel_rfl) (fun _ _ _ h => h) rfl (fun W hSw => ?_) (S0) ?_
          · (try dsimp only at hSw); go_simp <;> with_reducible rfl
          try simp only [Act.put, List.setIfInBounds_toArray, List.set_cons_zero, List.set_cons_succ]
          refine any_take (i := 7) (some 44) (.pointer (some ⟨w.heap.size, 6, none⟩)) rfl rfl (by kernel_rfl) (by kernel_rfl) (by kernel_rfl) (fun _ _ _ h => h) rfl (fun W hSw => ?_) (S0) ?_
          · (try dsimp only at hSw); go_simp <;> with_reducible rfl
          try simp only [Act.put, List.setIfInBounds_toArray, List.set_cons_zero, List.set_cons_succ]
          refine any_take (i := 8) (some 45) (.int .i64 x6) rfl rfl (by kernel_rfl) (by kernel_rfl) (by kernel_rfl) (fun _ _ _ h => h) rfl (fun W hSw => ?_) (S0) ?_
          · (try dsimp only at hSw); go_simp <;> with_reducible rfl
          try simp only [Act.put, List.setIfInBounds_toArray, List.set_cons_zero, List.set_cons_succ]
          refine wpAnyH_ready (rs := [4]) (by kernel_rfl) (by simp) ?_
          refine AllReadyH.cons rfl (fun K hK => ?_) AllReadyH.nil
          go_simp
          go_at_call 22
          refine (fmtS8 _ x5 (by omega) (by omega)).mono ?_
          rintro e wf ⟨rfl, hb8⟩
          rw [HF5.out]
          have hb9wf : Below v7.heap.size v7 wf := bthen ((Below.refl _ _).drew : Below v7.heap.size v7 v7.drew) hb8
          have Swf : (fun W : World => (W.cell? ⟨w.heap.size, 5, none⟩ = some (.int .i64 x5) ∧ W.cell? ⟨w.heap.size, 6, none⟩ = some (.int .i64 x6)) ∧ Below v7.heap.size v7 W) wf := ⟨⟨(bold hb9wf _ _ (la2)).trans S0.1.1, (bold hb9wf _ _ (la2)).trans S0.1.2⟩, hb9wf⟩
          clear hb8
          go_wp2_with fail
          refine hK.out _ _ Swf (fun _ => ?_)
          clear hK K
          try simp only [Act.put, List.setIfInBounds_toArray, List.set_cons_zero, List.set_cons_succ]
          refine any_take (i := 5) (some 42) (.string TA) rfl rfl (by kernel_rfl) (by kernel_rfl) (by kernel_rfl) (fun _ _ _ h => h) rfl (fun W hSw => ?_) (Swf) ?_
          · (try dsimp only at hSw); go_simp; rw [if_neg (by omega)]; rw [HTA.out]
          try simp only [Act.put, List.setIfInBounds_toArray, List.set_cons_zero, List.set_cons_succ]
          refine any_take (i := 6) (some 43) (.string TB) rfl rfl (by kernel_rfl) (by kernel_rfl) (by kernel_rfl) (fun _ _ _ h => h) rfl (fun W hSw => ?_) (Swf) ?_
          · (try dsimp only at hSw); go_simp; rw [if_neg (by first | omega | (have := (rfl : (⟨#[32]⟩ : ByteArray).size = 1); omega))]; rw [HTB.out]
          try simp only [Act.put, List.setIfInBounds_toArray, List.set_cons_zero, List.set_cons_succ]
          refine wpAnyH_ready (rs := [9]) (by kernel_rfl) (by simp) ?_
          refine AllReadyH.cons rfl (fun K hK => ?_) AllReadyH.nil
          go_simp
          go_at_call 22
          refine (fmtS8 _ x6 (by omega) (by omega)).mono ?_
          rintro e wg ⟨rfl, hb8⟩
          rw [HF6.out]
          have hb9wg : Below v7.heap.size v7 wg := bthen Swf.2 hb8
          have Swg : (fun W : World => (W.cell? ⟨w.heap.size, 5, none⟩ = some (.int .i64 x5) ∧ W.cell? ⟨w.heap.size, 6, none⟩ = some (.int .i64 x6)) ∧ Below v7.heap.size v7 W) wg := ⟨⟨(bold hb9wg _ _ (la2)).trans S0.1.1, (bold hb9wg _ _ (la2)).trans S0.1.2⟩, hb9wg⟩
          clear hb8
          go_wp2_with fail
          refine hK.out _ _ Swg (fun _ => ?_)
          clear hK K
          try simp only [Act.put, List.setIfInBounds_toArray, List.set_cons_zero, List.set_cons_succ]
          refine any_take (i := 10) (some 47) (.string TC) rfl rfl (by kernel_rfl) (by kernel_rfl) (by kernel_rfl) (fun _ _ _ h => h) rfl (fun W hSw => ?_) (Swg) ?_
          · (try dsimp only at hSw); go_simp; rw [if_neg (by omega)]; rw [HTC.out]
          try simp only [Act.put, List.setIfInBounds_toArray, List.set_cons_zero, List.set_cons_succ]
          refine any_take (i := 11) (some 2) (.string TC) rfl rfl (by kernel_rfl) (by kernel_rfl) (by kernel_rfl) (fun _ _ _ h => h) rfl (fun W hSw => ?_) (Swg) ?_
          · (try dsimp only at hSw); go_simp <;> with_reducible rfl
          try simp only [Act.put, List.setIfInBounds_toArray, List.set_cons_zero, List.set_cons_succ]
          refine wpAnyH_done (by kernel_rfl) ?_ _
          have hbreg : Below v7.heap.size v7 wg := Swg.2
          clear S0 Swf hb9wf Swg hb9wg
          go_wp2_with fail
          go_ret
          exact ⟨by rw [HEND.out]; rfl, bthen HB2.out hbreg⟩
      · skip
        go_simp
        try go_wp2_with fail
        generalize hX9 : (v2.alloc (.cells #[.string (⟨#[112, 108, 97, 99, 101, 100]⟩ : ByteArray), .string (⟨#[101, 120, 116, 101, 110, 100, 101, 100]⟩ : ByteArray), .string (⟨#[116, 97, 107, 101, 110]⟩ : ByteArray), .string (⟨#[102, 101, 116, 99, 104, 101, 100]⟩ : ByteArray)] 9)) = v8
        have hb8 : Below v2.heap.size v2 v8 := by rw [← hX9]; exact balloc _ _
        have hnw : Has v8 v2.heap.size 9 #[.string (⟨#[112, 108, 97, 99, 101, 100]⟩ : ByteArray), .string (⟨#[101, 120, 116, 101, 110, 100, 101, 100]⟩ : ByteArray), .string (⟨#[116, 97, 107, 101, 110]⟩ : ByteArray), .string (⟨#[102, 101, 116, 99, 104, 101, 100]⟩ : ByteArray)] := by rw [← hX9]; exact has_new _ _ _
        clear hX9
        have Sv8o : (fun W : World => (W.cell? ⟨w.heap.size, 0, none⟩ = some (.int .i64 x0) ∧ W.cell? ⟨w.heap.size, 1, none⟩ = some (.int .i64 x1) ∧ W.cell? ⟨w.heap.size, 2, none⟩ = some (.int .i64 x2) ∧ W.cell? ⟨w.heap.size, 3, none⟩ = some (.int .i64 1) ∧ W.cell? ⟨w.heap.size, 4, none⟩ = some (.int .i64 x4) ∧ W.cell? ⟨w.heap.size, 5, none⟩ = some (.int .i64 x5) ∧ W.cell? ⟨w.heap.size, 6, none⟩ = some (.int .i64 x6)) ∧ Below w1.heap.size w1 W) v8 := ⟨⟨(bold hb8 _ _ (Nat.lt_of_lt_of_le la Sv2.2.size)).trans Sv2.1.1, (bold hb8 _ _ (Nat.lt_of_lt_of_le la Sv2.2.size)).trans Sv2.1.2.1, (bold hb8 _ _ (Nat.lt_of_lt_of_le la Sv2.2.size)).trans Sv2.1.2.2.1, (bold hb8 _ _ (Nat.lt_of_lt_of_le la Sv2.2.size)).trans Sv2.1.2.2.2.1, (bold hb8 _ _ (Nat.lt_of_lt_of_le la Sv2.2.size)).trans Sv2.1.2.2.2.2.1, (bold hb8 _ _ (Nat.lt_of_lt_of_le la Sv2.2.size)).trans Sv2.1.2.2.2.2.2.1, (bold hb8 _ _ (Nat.lt_of_lt_of_le la Sv2.2.size)).trans Sv2.1.2.2.2.2.2.2⟩, bthen Sv2.2 hb8⟩
        have Sv8 : (fun W : World => (W.cell? ⟨v2.heap.size, 0, none⟩ = some (.string (⟨#[112, 108, 97, 99, 101, 100]⟩ : ByteArray)) ∧ W.cell? ⟨w.heap.size, 0, none⟩ = some (.int .i64 x0) ∧ W.cell? ⟨w.heap.size, 1, none⟩ = some (.int .i64 x1) ∧ W.cell? ⟨w.heap.size, 2, none⟩ = some (.int .i64 x2) ∧ W.cell? ⟨w.heap.size, 3, none⟩ = some (.int .i64 1) ∧ W.cell? ⟨w.heap.size, 4, none⟩ = some (.int .i64 x4) ∧ W.cell? ⟨w.heap.size, 5, none⟩ = some (.int .i64 x5) ∧ W.cell? ⟨w.heap.size, 6, none⟩ = some (.int .i64 x6)) ∧ Below w1.heap.size w1 W) v8 := ⟨⟨has_cell hnw 0 rfl, Sv8o.1⟩, Sv8o.2⟩
        have lnv8 : v2.heap.size < v8.heap.size := has_lt hnw
        refine hK.out _ _ Sv8o (fun _ => ?_)
        clear hK K hb8 hnw Sv8o
        try simp only [Act.put, List.setIfInBounds_toArray, List.set_cons_zero, List.set_cons_succ]
        refine wpAnyH_strong (S2 := (fun W : World => (W.cell? ⟨v2.heap.size, 0, none⟩ = some (.string (⟨#[112, 108, 97, 99, 101, 100]⟩ : ByteArray)) ∧ W.cell? ⟨w.heap.size, 0, none⟩ = some (.int .i64 x0) ∧ W.cell? ⟨w.heap.size, 1, none⟩ = some (.int .i64 x1) ∧ W.cell? ⟨w.heap.size, 2, none⟩ = some (.int .i64 x2) ∧ W.cell? ⟨w.heap.size, 3, none⟩ = some (.int .i64 1) ∧ W.cell? ⟨w.heap.size, 4, none⟩ = some (.int .i64 x4) ∧ W.cell? ⟨w.heap.size, 5, none⟩ = some (.int .i64 x5) ∧ W.cell? ⟨w.heap.size, 6, none⟩ = some (.int .i64 x6)) ∧ Below w1.heap.size w1 W)) (fun W h => ⟨h.1.2, h.2⟩) ?_
        refine any_take (i := 18) (some 25) (.pointer (some ⟨v2.heap.size, 0, none⟩)) rfl rfl (by kernel_rfl) (by kernel_rfl) (by kernel_rfl) (fun _ _ _ h => h) rfl (fun W hSw => ?_) (Sv8) ?_
        · (try dsimp only at hSw); go_simp <;> with_reducible rfl
        try simp only [Act.put, List.setIfInBounds_toArray, List.set_cons_zero, List.set_cons_succ]
        refine any_take (i := 19) (some 26) (.string (⟨#[112, 108, 97, 99, 101, 100]⟩ : ByteArray)) rfl rfl (by kernel_rfl) (by kernel_rfl) (by kernel_rfl) (fun _ _ _ h => h) rfl (fun W hSw => ?_) (Sv8) ?_
        · (try dsimp only at hSw); go_simp <;> with_reducible rfl
        try simp only [Act.put, List.setIfInBounds_toArray, List.set_cons_zero, List.set_cons_succ]
        refine wpAnyH_ready (rs := [11]) (by kernel_rfl) (by simp) ?_
        refine (AllReadyH.cons rfl (fun K hK => ?_) AllReadyH.nil)
        go_simp
        go_at_call 22
        refine (fmtS8 _ x2 (by omega) (by omega)).mono ?_
        rintro e v9 ⟨rfl, hb8⟩
        rw [HF2.out]
        have Sv9 : (fun W : World => (W.cell? ⟨v2.heap.size, 0, none⟩ = some (.string (⟨#[112, 108, 97, 99, 101, 100]⟩ : ByteArray)) ∧ W.cell? ⟨w.heap.size, 0, none⟩ = some (.int .i64 x0) ∧ W.cell? ⟨w.heap.size, 1, none⟩ = some (.int .i64 x1) ∧ W.cell? ⟨w.heap.size, 2, none⟩ = some (.int .i64 x2) ∧ W.cell? ⟨w.heap.size, 3, none⟩ = some (.int .i64 1) ∧ W.cell? ⟨w.heap.size, 4, none⟩ = some (.int .i64 x4) ∧ W.cell? ⟨w.heap.size, 5, none⟩ = some (.int .i64 x5) ∧ W.cell? ⟨w.heap.size, 6, none⟩ = some (.int .i64 x6)) ∧ Below w1.heap.size w1 W) v9 := ⟨⟨(bold hb8 _ _ lnv8).trans Sv8.1.1, (bold hb8 _ _ (Nat.lt_of_lt_of_le la Sv8.2.size)).trans Sv8.1.2.1, (bold hb8 _ _ (Nat.lt_of_lt_of_le la Sv8.2.size)).trans Sv8.1.2.2.1, (bold hb8 _ _ (Nat.lt_of_lt_of_le la Sv8.2.size)).trans Sv8.1.2.2.2.1, (bold hb8 _ _ (Nat.lt_of_lt_of_le la Sv8.2.size)).trans Sv8.1.2.2.2.2.1, (bold hb8 _ _ (Nat.lt_of_lt_of_le la Sv8.2.size)).trans Sv8.1.2.2.2.2.2.1, (bold hb8 _ _ (Nat.lt_of_lt_of_le la Sv8.2.size)).trans Sv8.1.2.2.2.2.2.2.1, (bold hb8 _ _ (Nat.lt_of_lt_of_le la Sv8.2.size)).trans Sv8.1.2.2.2.2.2.2.2⟩, bthen Sv8.2 hb8⟩
        have lnv9 : v2.heap.size < v9.heap.size := Nat.lt_of_lt_of_le lnv8 hb8.size
        clear hb8
        go_wp2_with fail
        refine hK.out _ _ Sv9 (fun _ => ?_)
        clear hK K
        try simp only [Act.put, List.setIfInBounds_toArray, List.set_cons_zero, List.set_cons_succ]
        refine any_take (i := 12) (some 19) (.string T4) rfl rfl (by kernel_rfl) (by kernel_rfl) (by kernel_rfl) (fun _ _ _ h => h) rfl (fun W hSw => ?_) (Sv9) ?_
        · (try dsimp only at hSw); go_simp; rw [if_neg (by omega)]; rw [HT4.out]
        try simp only [Act.put, List.setIfInBounds_toArray, List.set_cons_zero, List.set_cons_succ]
        refine any_take (i := 13) (some 20) (.string T5) rfl rfl (by kernel_rfl) (by kernel_rfl) (by kernel_rfl) (fun _ _ _ h => h) rfl (fun W hSw => ?_) (Sv9) ?_
        · (try dsimp only at hSw); go_simp; rw [if_neg (by first | omega | (have := (rfl : (⟨#[32]⟩ : ByteArray).size = 1); omega))]; rw [HT5.out]
        try simp only [Act.put, List.setIfInBounds_toArray, List.set_cons_zero, List.set_cons_succ]
        refine any_take (i := 20) (some 27) (.string T6) rfl rfl (by kernel_rfl) (by kernel_rfl) (by kernel_rfl) (fun _ _ _ h => h) rfl (fun W hSw => ?_) (Sv9) ?_
        · (try dsimp only at hSw); go_simp; rw [if_neg (by first | omega | (have := (rfl : (⟨#[112, 108, 97, 99, 101, 100]⟩ : ByteArray).size = 6); omega))]; rw [HT6.out]
        try simp only [Act.put, List.setIfInBounds_toArray, List.set_cons_zero, List.set_cons_succ]
        refine any_take (i := 21) (some 28) (.string T7) rfl rfl (by kernel_rfl) (by kernel_rfl) (by kernel_rfl) (fun _ _ _ h => h) rfl (fun W hSw => ?_) (Sv9) ?_
        · (try dsimp only at hSw); go_simp; rw [if_neg (by first | omega | (have := (rfl : (⟨#[32]⟩ : ByteArray).size = 1); omega))]; rw [HT7.out]
        try simp only [Act.put, List.setIfInBounds_toArray, List.set_cons_zero, List.set_cons_succ]
        refine wpAnyH_ready (rs := [24]) (by kernel_rfl) (by simp) ?_
        refine (AllReadyH.cons rfl (fun K hK => ?_) AllReadyH.nil)
        go_simp
        go_at_call 22
        refine (fmtS8 _ x4 (by omega) (by omega)).mono ?_
        rintro e v10 ⟨rfl, hb8⟩
        rw [HF4.out]
        have Sv10 : (fun W : World => (W.cell? ⟨v2.heap.size, 0, none⟩ = some (.string (⟨#[112, 108, 97, 99, 101, 100]⟩ : ByteArray)) ∧ W.cell? ⟨w.heap.size, 0, none⟩ = some (.int .i64 x0) ∧ W.cell? ⟨w.heap.size, 1, none⟩ = some (.int .i64 x1) ∧ W.cell? ⟨w.heap.size, 2, none⟩ = some (.int .i64 x2) ∧ W.cell? ⟨w.heap.size, 3, none⟩ = some (.int .i64 1) ∧ W.cell? ⟨w.heap.size, 4, none⟩ = some (.int .i64 x4) ∧ W.cell? ⟨w.heap.size, 5, none⟩ = some (.int .i64 x5) ∧ W.cell? ⟨w.heap.size, 6, none⟩ = some (.int .i64 x6)) ∧ Below w1.heap.size w1 W) v10 := ⟨⟨(bold hb8 _ _ lnv9).trans Sv9.1.1, (bold hb8 _ _ (Nat.lt_of_lt_of_le la Sv9.2.size)).trans Sv9.1.2.1, (bold hb8 _ _ (Nat.lt_of_lt_of_le la Sv9.2.size)).trans Sv9.1.2.2.1, (bold hb8 _ _ (Nat.lt_of_lt_of_le la Sv9.2.size)).trans Sv9.1.2.2.2.1, (bold hb8 _ _ (Nat.lt_of_lt_of_le la Sv9.2.size)).trans Sv9.1.2.2.2.2.1, (bold hb8 _ _ (Nat.lt_of_lt_of_le la Sv9.2.size)).trans Sv9.1.2.2.2.2.2.1, (bold hb8 _ _ (Nat.lt_of_lt_of_le la Sv9.2.size)).trans Sv9.1.2.2.2.2.2.2.1, (bold hb8 _ _ (Nat.lt_of_lt_of_le la Sv9.2.size)).trans Sv9.1.2.2.2.2.2.2.2⟩, bthen Sv9.2 hb8⟩
        have lnv10 : v2.heap.size < v10.heap.size := Nat.lt_of_lt_of_le lnv9 hb8.size
        clear hb8
        go_wp2_with fail
        refine hK.out _ _ Sv10 (fun _ => ?_)
        clear hK K
        try simp only [Act.put, List.setIfInBounds_toArray, List.set_cons_zero, List.set_cons_succ]
        refine any_take (i := 25) (some 32) (.string T8) rfl rfl (by kernel_rfl) (by kernel_rfl) (by kernel_rfl) (fun _ _ _ h => h) rfl (fun W hSw => ?_) (Sv10) ?_
        · (try dsimp only at hSw); go_simp; rw [if_neg (by omega)]; rw [HT8.out]
        try simp only [Act.put, List.setIfInBounds_toArray, List.set_cons_zero, List.set_cons_succ]
        refine any_take (i := 26) (some 3) (.string T8) rfl rfl (by kernel_rfl) (by kernel_rfl) (by kernel_rfl) (fun _ _ _ h => h) rfl (fun W hSw => ?_) (Sv10) ?_
        · (try dsimp only at hSw); go_simp <;> with_reducible rfl
        try simp only [Act.put, List.setIfInBounds_toArray, List.set_cons_zero, List.set_cons_succ]
        refine wpAnyH_done (by kernel_rfl) ?_ _
        have q0 := Sv10.1.2.1; have q1 := Sv10.1.2.2.1; have q2 := Sv10.1.2.2.2.1; have q3 := Sv10.1.2.2.2.2.1; have q4 := Sv10.1.2.2.2.2.2.1; have q5 := Sv10.1.2.2.2.2.2.2.1; have q6 := Sv10.1.2.2.2.2.2.2.2
        have hbreg := Sv10.2
        have la2 : w.heap.size < v10.heap.size := Nat.lt_of_lt_of_le la hbreg.size
        have HB2 := Lib.hid (bthen HB1.out hbreg); clear hbreg
        go_wp2_with fail
        have S0 : (fun W : World => (W.cell? ⟨w.heap.size, 5, none⟩ = some (.int .i64 x5) ∧ W.cell? ⟨w.heap.size, 6, none⟩ = some (.int .i64 x6)) ∧ Below v10.heap.size v10 W) v10.drew := ⟨⟨q5, q6⟩, (Below.refl _ _).drew⟩
        clear q5 q6
        refine wp_region_held_drew (S := (fun W : World => (W.cell? ⟨w.heap.size, 5, none⟩ = some (.int .i64 x5) ∧ W.cell? ⟨w.heap.size, 6, none⟩ = some (.int .i64 x6)) ∧ Below v10.heap.size v10 W)) (by kernel_rfl) S0 (fun _ => ?_)
        refine any_take (i := 0) (some 37) (.string T8) rfl rfl (by kernel_rfl) (by kernel_rfl) (by kernel_rfl) (fun _ _ _ h => h) rfl (fun W hSw => ?_) (S0) ?_
        · (try dsimp only at hSw); go_simp <;> with_reducible rfl
        try simp only [Act.put, List.setIfInBounds_toArray, List.set_cons_zero, List.set_cons_succ]
        refine any_take (i := 1) (some 38) (.string T9) rfl rfl (by kernel_rfl) (by kernel_rfl) (by kernel_rfl) (fun _ _ _ h => h) rfl (fun W hSw => ?_) (S0) ?_
        · (try dsimp only at hSw); go_simp; rw [if_neg (by first | omega | (have := (rfl : (⟨#[32]⟩ : ByteArray).size = 1); omega))]; rw [HT9.out]
        try simp only [Act.put, List.setIfInBounds_toArray, List.set_cons_zero, List.set_cons_succ]
        refine any_take (i := 2) (some 39) (.pointer (some ⟨w.heap.size, 5, none⟩)) rfl rfl (by kernel_rfl) (by kernel_rfl) (by kernel_rfl) (fun _ _ _ h => h) rfl (fun W hSw => ?_) (S0) ?_
        · (try dsimp only at hSw); go_simp <;> with_reducible rfl
        try simp only [Act.put, List.setIfInBounds_toArray, List.set_cons_zero, List.set_cons_succ]
        refine any_take (i := 3) (some 40) (.int .i64 x5) rfl rfl (by kernel_rfl) (by kernel_rfl) (by kernel_rfl) (fun _ _ _ h => h) rfl (fun W hSw => ?_) (S0) ?_
        · (try dsimp only at hSw); go_simp <;> with_reducible rfl
        try simp only [Act.put, List.setIfInBounds_toArray, List.set_cons_zero, List.set_cons_succ]
        refine any_take (i := 7) (some 44) (.pointer (some ⟨w.heap.size, 6, none⟩)) rfl rfl (by kernel_rfl) (by kernel_rfl) (by kernel_rfl) (fun _ _ _ h => h) rfl (fun W hSw => ?_) (S0) ?_
        · (try dsimp only at hSw); go_simp <;> with_reducible rfl
        try simp only [Act.put, List.setIfInBounds_toArray, List.set_cons_zero, List.set_cons_succ]
        refine any_take (i := 8) (some 45) (.int .i64 x6) rfl rfl (by kernel_rfl) (by kernel_rfl) (by kernel_rfl) (fun _ _ _ h => h) rfl (fun W hSw => ?_) (S0) ?_
        · (try dsimp only at hSw); go_simp <;> with_reducible rfl
        try simp only [Act.put, List.setIfInBounds_toArray, List.set_cons_zero, List.set_cons_succ]
        refine wpAnyH_ready (rs := [4]) (by kernel_rfl) (by simp) ?_
        refine AllReadyH.cons rfl (fun K hK => ?_) AllReadyH.nil
        go_simp
        go_at_call 22
        refine (fmtS8 _ x5 (by omega) (by omega)).mono ?_
        rintro e wf ⟨rfl, hb8⟩
        rw [HF5.out]
        have hb9wf : Below v10.heap.size v10 wf := bthen ((Below.refl _ _).drew : Below v10.heap.size v10 v10.drew) hb8
        have Swf : (fun W : World => (W.cell? ⟨w.heap.size, 5, none⟩ = some (.int .i64 x5) ∧ W.cell? ⟨w.heap.size, 6, none⟩ = some (.int .i64 x6)) ∧ Below v10.heap.size v10 W) wf := ⟨⟨(bold hb9wf _ _ (la2)).trans S0.1.1, (bold hb9wf _ _ (la2)).trans S0.1.2⟩, hb9wf⟩
        clear hb8
        go_wp2_with fail
        refine hK.out _ _ Swf (fun _ => ?_)
        clear hK K
        try simp only [Act.put, List.setIfInBounds_toArray, List.set_cons_zero, List.set_cons_succ]
        refine any_take (i := 5) (some 42) (.string TA) rfl rfl (by kernel_rfl) (by kernel_rfl) (by kernel_rfl) (fun _ _ _ h => h) rfl (fun W hSw => ?_) (Swf) ?_
        · (try dsimp only at hSw); go_simp; rw [if_neg (by omega)]; rw [HTA.out]
        try simp only [Act.put, List.setIfInBounds_toArray, List.set_cons_zero, List.set_cons_succ]
        refine any_take (i := 6) (some 43) (.string TB) rfl rfl (by kernel_rfl) (by kernel_rfl) (by kernel_rfl) (fun _ _ _ h => h) rfl (fun W hSw => ?_) (Swf) ?_
        · (try dsimp only at hSw); go_simp; rw [if_neg (by first | omega | (have := (rfl : (⟨#[32]⟩ : ByteArray).size = 1); omega))]; rw [HTB.out]
        try simp only [Act.put, List.setIfInBounds_toArray, List.set_cons_zero, List.set_cons_succ]
        refine wpAnyH_ready (rs := [9]) (by kernel_rfl) (by simp) ?_
        refine AllReadyH.cons rfl (fun K hK => ?_) AllReadyH.nil
        go_simp
        go_at_call 22
        refine (fmtS8 _ x6 (by omega) (by omega)).mono ?_
        rintro e wg ⟨rfl, hb8⟩
        rw [HF6.out]
        have hb9wg : Below v10.heap.size v10 wg := bthen Swf.2 hb8
        have Swg : (fun W : World => (W.cell? ⟨w.heap.size, 5, none⟩ = some (.int .i64 x5) ∧ W.cell? ⟨w.heap.size, 6, none⟩ = some (.int .i64 x6)) ∧ Below v10.heap.size v10 W) wg := ⟨⟨(bold hb9wg _ _ (la2)).trans S0.1.1, (bold hb9wg _ _ (la2)).trans S0.1.2⟩, hb9wg⟩
        clear hb8
        go_wp2_with fail
        refine hK.out _ _ Swg (fun _ => ?_)
        clear hK K
        try simp only [Act.put, List.setIfInBounds_toArray, List.set_cons_zero, List.set_cons_succ]
        refine any_take (i := 10) (some 47) (.string TC) rfl rfl (by kernel_rfl) (by kernel_rfl) (by kernel_rfl) (fun _ _ _ h => h) rfl (fun W hSw => ?_) (Swg) ?_
        · (try dsimp only at hSw); go_simp; rw [if_neg (by omega)]; rw [HTC.out]
        try simp only [Act.put, List.setIfInBounds_toArray, List.set_cons_zero, List.set_cons_succ]
        refine any_take (i := 11) (some 2) (.string TC) rfl rfl (by kernel_rfl) (by kernel_rfl) (by kernel_rfl) (fun _ _ _ h => h) rfl (fun W hSw => ?_) (Swg) ?_
        · (try dsimp only at hSw); go_simp <;> with_reducible rfl
        try simp only [Act.put, List.setIfInBounds_toArray, List.set_cons_zero, List.set_cons_succ]
        refine wpAnyH_done (by kernel_rfl) ?_ _
        have hbreg : Below v10.heap.size v10 wg := Swg.2
        clear S0 Swf hb9wf Swg hb9wg
        go_wp2_with fail
        go_ret
        exact ⟨by rw [HEND.out]; rfl, bthen HB2.out hbreg⟩
    · skip
      go_simp
      try go_wp2_with fail
      generalize hX9 : (v1.alloc (.cells #[.string (⟨#[112, 108, 97, 99, 101, 100]⟩ : ByteArray), .string (⟨#[101, 120, 116, 101, 110, 100, 101, 100]⟩ : ByteArray), .string (⟨#[116, 97, 107, 101, 110]⟩ : ByteArray), .string (⟨#[102, 101, 116, 99, 104, 101, 100]⟩ : ByteArray)] 9)) = v11
      have hb8 : Below v1.heap.size v1 v11 := by rw [← hX9]; exact balloc _ _
      have hnw : Has v11 v1.heap.size 9 #[.string (⟨#[112, 108, 97, 99, 101, 100]⟩ : ByteArray), .string (⟨#[101, 120, 116, 101, 110, 100, 101, 100]⟩ : ByteArray), .string (⟨#[116, 97, 107, 101, 110]⟩ : ByteArray), .string (⟨#[102, 101, 116, 99, 104, 101, 100]⟩ : ByteArray)] := by rw [← hX9]; exact has_new _ _ _
      clear hX9
      have Sv11o : (fun W : World => (W.cell? ⟨w.heap.size, 0, none⟩ = some (.int .i64 x0) ∧ W.cell? ⟨w.heap.size, 1, none⟩ = some (.int .i64 x1) ∧ W.cell? ⟨w.heap.size, 2, none⟩ = some (.int .i64 x2) ∧ W.cell? ⟨w.heap.size, 3, none⟩ = some (.int .i64 1) ∧ W.cell? ⟨w.heap.size, 4, none⟩ = some (.int .i64 x4) ∧ W.cell? ⟨w.heap.size, 5, none⟩ = some (.int .i64 x5) ∧ W.cell? ⟨w.heap.size, 6, none⟩ = some (.int .i64 x6)) ∧ Below w1.heap.size w1 W) v11 := ⟨⟨(bold hb8 _ _ (Nat.lt_of_lt_of_le la Sv1.2.size)).trans Sv1.1.1, (bold hb8 _ _ (Nat.lt_of_lt_of_le la Sv1.2.size)).trans Sv1.1.2.1, (bold hb8 _ _ (Nat.lt_of_lt_of_le la Sv1.2.size)).trans Sv1.1.2.2.1, (bold hb8 _ _ (Nat.lt_of_lt_of_le la Sv1.2.size)).trans Sv1.1.2.2.2.1, (bold hb8 _ _ (Nat.lt_of_lt_of_le la Sv1.2.size)).trans Sv1.1.2.2.2.2.1, (bold hb8 _ _ (Nat.lt_of_lt_of_le la Sv1.2.size)).trans Sv1.1.2.2.2.2.2.1, (bold hb8 _ _ (Nat.lt_of_lt_of_le la Sv1.2.size)).trans Sv1.1.2.2.2.2.2.2⟩, bthen Sv1.2 hb8⟩
      have Sv11 : (fun W : World => (W.cell? ⟨v1.heap.size, 0, none⟩ = some (.string (⟨#[112, 108, 97, 99, 101, 100]⟩ : ByteArray)) ∧ W.cell? ⟨w.heap.size, 0, none⟩ = some (.int .i64 x0) ∧ W.cell? ⟨w.heap.size, 1, none⟩ = some (.int .i64 x1) ∧ W.cell? ⟨w.heap.size, 2, none⟩ = some (.int .i64 x2) ∧ W.cell? ⟨w.heap.size, 3, none⟩ = some (.int .i64 1) ∧ W.cell? ⟨w.heap.size, 4, none⟩ = some (.int .i64 x4) ∧ W.cell? ⟨w.heap.size, 5, none⟩ = some (.int .i64 x5) ∧ W.cell? ⟨w.heap.size, 6, none⟩ = some (.int .i64 x6)) ∧ Below w1.heap.size w1 W) v11 := ⟨⟨has_cell hnw 0 rfl, Sv11o.1⟩, Sv11o.2⟩
      have lnv11 : v1.heap.size < v11.heap.size := has_lt hnw
      refine hK.out _ _ Sv11o (fun _ => ?_)
      clear hK K hb8 hnw Sv11o
      try simp only [Act.put, List.setIfInBounds_toArray, List.set_cons_zero, List.set_cons_succ]
      refine wpAnyH_strong (S2 := (fun W : World => (W.cell? ⟨v1.heap.size, 0, none⟩ = some (.string (⟨#[112, 108, 97, 99, 101, 100]⟩ : ByteArray)) ∧ W.cell? ⟨w.heap.size, 0, none⟩ = some (.int .i64 x0) ∧ W.cell? ⟨w.heap.size, 1, none⟩ = some (.int .i64 x1) ∧ W.cell? ⟨w.heap.size, 2, none⟩ = some (.int .i64 x2) ∧ W.cell? ⟨w.heap.size, 3, none⟩ = some (.int .i64 1) ∧ W.cell? ⟨w.heap.size, 4, none⟩ = some (.int .i64 x4) ∧ W.cell? ⟨w.heap.size, 5, none⟩ = some (.int .i64 x5) ∧ W.cell? ⟨w.heap.size, 6, none⟩ = some (.int .i64 x6)) ∧ Below w1.heap.size w1 W)) (fun W h => ⟨h.1.2, h.2⟩) ?_
      refine any_take (i := 18) (some 25) (.pointer (some ⟨v1.heap.size, 0, none⟩)) rfl rfl (by kernel_rfl) (by kernel_rfl) (by kernel_rfl) (fun _ _ _ h => h) rfl (fun W hSw => ?_) (Sv11) ?_
      · (try dsimp only at hSw); go_simp <;> with_reducible rfl
      try simp only [Act.put, List.setIfInBounds_toArray, List.set_cons_zero, List.set_cons_succ]
      refine any_take (i := 19) (some 26) (.string (⟨#[112, 108, 97, 99, 101, 100]⟩ : ByteArray)) rfl rfl (by kernel_rfl) (by kernel_rfl) (by kernel_rfl) (fun _ _ _ h => h) rfl (fun W hSw => ?_) (Sv11) ?_
      · (try dsimp only at hSw); go_simp <;> with_reducible rfl
      try simp only [Act.put, List.setIfInBounds_toArray, List.set_cons_zero, List.set_cons_succ]
      refine wpAnyH_ready (rs := [6]) (by kernel_rfl) (by simp) ?_
      refine (AllReadyH.cons rfl (fun K hK => ?_) AllReadyH.nil)
      go_simp
      go_at_call 22
      refine (fmtS8 _ x1 (by omega) (by omega)).mono ?_
      rintro e v12 ⟨rfl, hb8⟩
      rw [HF1.out]
      have Sv12 : (fun W : World => (W.cell? ⟨v1.heap.size, 0, none⟩ = some (.string (⟨#[112, 108, 97, 99, 101, 100]⟩ : ByteArray)) ∧ W.cell? ⟨w.heap.size, 0, none⟩ = some (.int .i64 x0) ∧ W.cell? ⟨w.heap.size, 1, none⟩ = some (.int .i64 x1) ∧ W.cell? ⟨w.heap.size, 2, none⟩ = some (.int .i64 x2) ∧ W.cell? ⟨w.heap.size, 3, none⟩ = some (.int .i64 1) ∧ W.cell? ⟨w.heap.size, 4, none⟩ = some (.int .i64 x4) ∧ W.cell? ⟨w.heap.size, 5, none⟩ = some (.int .i64 x5) ∧ W.cell? ⟨w.heap.size, 6, none⟩ = some (.int .i64 x6)) ∧ Below w1.heap.size w1 W) v12 := ⟨⟨(bold hb8 _ _ lnv11).trans Sv11.1.1, (bold hb8 _ _ (Nat.lt_of_lt_of_le la Sv11.2.size)).trans Sv11.1.2.1, (bold hb8 _ _ (Nat.lt_of_lt_of_le la Sv11.2.size)).trans Sv11.1.2.2.1, (bold hb8 _ _ (Nat.lt_of_lt_of_le la Sv11.2.size)).trans Sv11.1.2.2.2.1, (bold hb8 _ _ (Nat.lt_of_lt_of_le la Sv11.2.size)).trans Sv11.1.2.2.2.2.1, (bold hb8 _ _ (Nat.lt_of_lt_of_le la Sv11.2.size)).trans Sv11.1.2.2.2.2.2.1, (bold hb8 _ _ (Nat.lt_of_lt_of_le la Sv11.2.size)).trans Sv11.1.2.2.2.2.2.2.1, (bold hb8 _ _ (Nat.lt_of_lt_of_le la Sv11.2.size)).trans Sv11.1.2.2.2.2.2.2.2⟩, bthen Sv11.2 hb8⟩
      have lnv12 : v1.heap.size < v12.heap.size := Nat.lt_of_lt_of_le lnv11 hb8.size
      clear hb8
      go_wp2_with fail
      refine hK.out _ _ Sv12 (fun _ => ?_)
      clear hK K
      try simp only [Act.put, List.setIfInBounds_toArray, List.set_cons_zero, List.set_cons_succ]
      refine any_take (i := 7) (some 14) (.string T2) rfl rfl (by kernel_rfl) (by kernel_rfl) (by kernel_rfl) (fun _ _ _ h => h) rfl (fun W hSw => ?_) (Sv12) ?_
      · (try dsimp only at hSw); go_simp; rw [if_neg (by omega)]; rw [HT2.out]
      try simp only [Act.put, List.setIfInBounds_toArray, List.set_cons_zero, List.set_cons_succ]
      refine any_take (i := 8) (some 15) (.string T3) rfl rfl (by kernel_rfl) (by kernel_rfl) (by kernel_rfl) (fun _ _ _ h => h) rfl (fun W hSw => ?_) (Sv12) ?_
      · (try dsimp only at hSw); go_simp; rw [if_neg (by first | omega | (have := (rfl : (⟨#[64]⟩ : ByteArray).size = 1); omega))]; rw [HT3.out]
      try simp only [Act.put, List.setIfInBounds_toArray, List.set_cons_zero, List.set_cons_succ]
      refine wpAnyH_ready (rs := [11]) (by kernel_rfl) (by simp) ?_
      refine (AllReadyH.cons rfl (fun K hK => ?_) AllReadyH.nil)
      go_simp
      go_at_call 22
      refine (fmtS8 _ x2 (by omega) (by omega)).mono ?_
      rintro e v13 ⟨rfl, hb8⟩
      rw [HF2.out]
      have Sv13 : (fun W : World => (W.cell? ⟨v1.heap.size, 0, none⟩ = some (.string (⟨#[112, 108, 97, 99, 101, 100]⟩ : ByteArray)) ∧ W.cell? ⟨w.heap.size, 0, none⟩ = some (.int .i64 x0) ∧ W.cell? ⟨w.heap.size, 1, none⟩ = some (.int .i64 x1) ∧ W.cell? ⟨w.heap.size, 2, none⟩ = some (.int .i64 x2) ∧ W.cell? ⟨w.heap.size, 3, none⟩ = some (.int .i64 1) ∧ W.cell? ⟨w.heap.size, 4, none⟩ = some (.int .i64 x4) ∧ W.cell? ⟨w.heap.size, 5, none⟩ = some (.int .i64 x5) ∧ W.cell? ⟨w.heap.size, 6, none⟩ = some (.int .i64 x6)) ∧ Below w1.heap.size w1 W) v13 := ⟨⟨(bold hb8 _ _ lnv12).trans Sv12.1.1, (bold hb8 _ _ (Nat.lt_of_lt_of_le la Sv12.2.size)).trans Sv12.1.2.1, (bold hb8 _ _ (Nat.lt_of_lt_of_le la Sv12.2.size)).trans Sv12.1.2.2.1, (bold hb8 _ _ (Nat.lt_of_lt_of_le la Sv12.2.size)).trans Sv12.1.2.2.2.1, (bold hb8 _ _ (Nat.lt_of_lt_of_le la Sv12.2.size)).trans Sv12.1.2.2.2.2.1, (bold hb8 _ _ (Nat.lt_of_lt_of_le la Sv12.2.size)).trans Sv12.1.2.2.2.2.2.1, (bold hb8 _ _ (Nat.lt_of_lt_of_le la Sv12.2.size)).trans Sv12.1.2.2.2.2.2.2.1, (bold hb8 _ _ (Nat.lt_of_lt_of_le la Sv12.2.size)).trans Sv12.1.2.2.2.2.2.2.2⟩, bthen Sv12.2 hb8⟩
      have lnv13 : v1.heap.size < v13.heap.size := Nat.lt_of_lt_of_le lnv12 hb8.size
      clear hb8
      go_wp2_with fail
      refine hK.out _ _ Sv13 (fun _ => ?_)
      clear hK K
      try simp only [Act.put, List.setIfInBounds_toArray, List.set_cons_zero, List.set_cons_succ]
      refine any_take (i := 12) (some 19) (.string T4) rfl rfl (by kernel_rfl) (by kernel_rfl) (by kernel_rfl) (fun _ _ _ h => h) rfl (fun W hSw => ?_) (Sv13) ?_
      · (try dsimp only at hSw); go_simp; rw [if_neg (by omega)]; rw [HT4.out]
      try simp only [Act.put, List.setIfInBounds_toArray, List.set_cons_zero, List.set_cons_succ]
      refine any_take (i := 13) (some 20) (.string T5) rfl rfl (by kernel_rfl) (by kernel_rfl) (by kernel_rfl) (fun _ _ _ h => h) rfl (fun W hSw => ?_) (Sv13) ?_
      · (try dsimp only at hSw); go_simp; rw [if_neg (by first | omega | (have := (rfl : (⟨#[32]⟩ : ByteArray).size = 1); omega))]; rw [HT5.out]
      try simp only [Act.put, List.setIfInBounds_toArray, List.set_cons_zero, List.set_cons_succ]
      refine any_take (i := 20) (some 27) (.string T6) rfl rfl (by kernel_rfl) (by kernel_rfl) (by kernel_rfl) (fun _ _ _ h => h) rfl (fun W hSw => ?_) (Sv13) ?_
      · (try dsimp only at hSw); go_simp; rw [if_neg (by first | omega | (have := (rfl : (⟨#[112, 108, 97, 99, 101, 100]⟩ : ByteArray).size = 6); omega))]; rw [HT6.out]
      try simp only [Act.put, List.setIfInBounds_toArray, List.set_cons_zero, List.set_cons_succ]
      refine any_take (i := 21) (some 28) (.string T7) rfl rfl (by kernel_rfl) (by kernel_rfl) (by kernel_rfl) (fun _ _ _ h => h) rfl (fun W hSw => ?_) (Sv13) ?_
      · (try dsimp only at hSw); go_simp; rw [if_neg (by first | omega | (have := (rfl : (⟨#[32]⟩ : ByteArray).size = 1); omega))]; rw [HT7.out]
      try simp only [Act.put, List.setIfInBounds_toArray, List.set_cons_zero, List.set_cons_succ]
      refine wpAnyH_ready (rs := [24]) (by kernel_rfl) (by simp) ?_
      refine (AllReadyH.cons rfl (fun K hK => ?_) AllReadyH.nil)
      go_simp
      go_at_call 22
      refine (fmtS8 _ x4 (by omega) (by omega)).mono ?_
      rintro e v14 ⟨rfl, hb8⟩
      rw [HF4.out]
      have Sv14 : (fun W : World => (W.cell? ⟨v1.heap.size, 0, none⟩ = some (.string (⟨#[112, 108, 97, 99, 101, 100]⟩ : ByteArray)) ∧ W.cell? ⟨w.heap.size, 0, none⟩ = some (.int .i64 x0) ∧ W.cell? ⟨w.heap.size, 1, none⟩ = some (.int .i64 x1) ∧ W.cell? ⟨w.heap.size, 2, none⟩ = some (.int .i64 x2) ∧ W.cell? ⟨w.heap.size, 3, none⟩ = some (.int .i64 1) ∧ W.cell? ⟨w.heap.size, 4, none⟩ = some (.int .i64 x4) ∧ W.cell? ⟨w.heap.size, 5, none⟩ = some (.int .i64 x5) ∧ W.cell? ⟨w.heap.size, 6, none⟩ = some (.int .i64 x6)) ∧ Below w1.heap.size w1 W) v14 := ⟨⟨(bold hb8 _ _ lnv13).trans Sv13.1.1, (bold hb8 _ _ (Nat.lt_of_lt_of_le la Sv13.2.size)).trans Sv13.1.2.1, (bold hb8 _ _ (Nat.lt_of_lt_of_le la Sv13.2.size)).trans Sv13.1.2.2.1, (bold hb8 _ _ (Nat.lt_of_lt_of_le la Sv13.2.size)).trans Sv13.1.2.2.2.1, (bold hb8 _ _ (Nat.lt_of_lt_of_le la Sv13.2.size)).trans Sv13.1.2.2.2.2.1, (bold hb8 _ _ (Nat.lt_of_lt_of_le la Sv13.2.size)).trans Sv13.1.2.2.2.2.2.1, (bold hb8 _ _ (Nat.lt_of_lt_of_le la Sv13.2.size)).trans Sv13.1.2.2.2.2.2.2.1, (bold hb8 _ _ (Nat.lt_of_lt_of_le la Sv13.2.size)).trans Sv13.1.2.2.2.2.2.2.2⟩, bthen Sv13.2 hb8⟩
      have lnv14 : v1.heap.size < v14.heap.size := Nat.lt_of_lt_of_le lnv13 hb8.size
      clear hb8
      go_wp2_with fail
      refine hK.out _ _ Sv14 (fun _ => ?_)
      clear hK K
      try simp only [Act.put, List.setIfInBounds_toArray, List.set_cons_zero, List.set_cons_succ]
      refine any_take (i := 25) (some 32) (.string T8) rfl rfl (by kernel_rfl) (by kernel_rfl) (by kernel_rfl) (fun _ _ _ h => h) rfl (fun W hSw => ?_) (Sv14) ?_
      · (try dsimp only at hSw); go_simp; rw [if_neg (by omega)]; rw [HT8.out]
      try simp only [Act.put, List.setIfInBounds_toArray, List.set_cons_zero, List.set_cons_succ]
      refine any_take (i := 26) (some 3) (.string T8) rfl rfl (by kernel_rfl) (by kernel_rfl) (by kernel_rfl) (fun _ _ _ h => h) rfl (fun W hSw => ?_) (Sv14) ?_
      · (try dsimp only at hSw); go_simp <;> with_reducible rfl
      try simp only [Act.put, List.setIfInBounds_toArray, List.set_cons_zero, List.set_cons_succ]
      refine wpAnyH_done (by kernel_rfl) ?_ _
      have q0 := Sv14.1.2.1; have q1 := Sv14.1.2.2.1; have q2 := Sv14.1.2.2.2.1; have q3 := Sv14.1.2.2.2.2.1; have q4 := Sv14.1.2.2.2.2.2.1; have q5 := Sv14.1.2.2.2.2.2.2.1; have q6 := Sv14.1.2.2.2.2.2.2.2
      have hbreg := Sv14.2
      have la2 : w.heap.size < v14.heap.size := Nat.lt_of_lt_of_le la hbreg.size
      have HB2 := Lib.hid (bthen HB1.out hbreg); clear hbreg
      go_wp2_with fail
      have S0 : (fun W : World => (W.cell? ⟨w.heap.size, 5, none⟩ = some (.int .i64 x5) ∧ W.cell? ⟨w.heap.size, 6, none⟩ = some (.int .i64 x6)) ∧ Below v14.heap.size v14 W) v14.drew := ⟨⟨q5, q6⟩, (Below.refl _ _).drew⟩
      clear q5 q6
      refine wp_region_held_drew (S := (fun W : World => (W.cell? ⟨w.heap.size, 5, none⟩ = some (.int .i64 x5) ∧ W.cell? ⟨w.heap.size, 6, none⟩ = some (.int .i64 x6)) ∧ Below v14.heap.size v14 W)) (by kernel_rfl) S0 (fun _ => ?_)
      refine any_take (i := 0) (some 37) (.string T8) rfl rfl (by kernel_rfl) (by kernel_rfl) (by kernel_rfl) (fun _ _ _ h => h) rfl (fun W hSw => ?_) (S0) ?_
      · (try dsimp only at hSw); go_simp <;> with_reducible rfl
      try simp only [Act.put, List.setIfInBounds_toArray, List.set_cons_zero, List.set_cons_succ]
      refine any_take (i := 1) (some 38) (.string T9) rfl rfl (by kernel_rfl) (by kernel_rfl) (by kernel_rfl) (fun _ _ _ h => h) rfl (fun W hSw => ?_) (S0) ?_
      · (try dsimp only at hSw); go_simp; rw [if_neg (by first | omega | (have := (rfl : (⟨#[32]⟩ : ByteArray).size = 1); omega))]; rw [HT9.out]
      try simp only [Act.put, List.setIfInBounds_toArray, List.set_cons_zero, List.set_cons_succ]
      refine any_take (i := 2) (some 39) (.pointer (some ⟨w.heap.size, 5, none⟩)) rfl rfl (by kernel_rfl) (by kernel_rfl) (by kernel_rfl) (fun _ _ _ h => h) rfl (fun W hSw => ?_) (S0) ?_
      · (try dsimp only at hSw); go_simp <;> with_reducible rfl
      try simp only [Act.put, List.setIfInBounds_toArray, List.set_cons_zero, List.set_cons_succ]
      refine any_take (i := 3) (some 40) (.int .i64 x5) rfl rfl (by kernel_rfl) (by kernel_rfl) (by kernel_rfl) (fun _ _ _ h => h) rfl (fun W hSw => ?_) (S0) ?_
      · (try dsimp only at hSw); go_simp <;> with_reducible rfl
      try simp only [Act.put, List.setIfInBounds_toArray, List.set_cons_zero, List.set_cons_succ]
      refine any_take (i := 7) (some 44) (.pointer (some ⟨w.heap.size, 6, none⟩)) rfl rfl (by kernel_rfl) (by kernel_rfl) (by kernel_rfl) (fun _ _ _ h => h) rfl (fun W hSw => ?_) (S0) ?_
      · (try dsimp only at hSw); go_simp <;> with_reducible rfl
      try simp only [Act.put, List.setIfInBounds_toArray, List.set_cons_zero, List.set_cons_succ]
      refine any_take (i := 8) (some 45) (.int .i64 x6) rfl rfl (by kernel_rfl) (by kernel_rfl) (by kernel_rfl) (fun _ _ _ h => h) rfl (fun W hSw => ?_) (S0) ?_
      · (try dsimp only at hSw); go_simp <;> with_reducible rfl
      try simp only [Act.put, List.setIfInBounds_toArray, List.set_cons_zero, List.set_cons_succ]
      refine wpAnyH_ready (rs := [4]) (by kernel_rfl) (by simp) ?_
      refine AllReadyH.cons rfl (fun K hK => ?_) AllReadyH.nil
      go_simp
      go_at_call 22
      refine (fmtS8 _ x5 (by omega) (by omega)).mono ?_
      rintro e wf ⟨rfl, hb8⟩
      rw [HF5.out]
      have hb9wf : Below v14.heap.size v14 wf := bthen ((Below.refl _ _).drew : Below v14.heap.size v14 v14.drew) hb8
      have Swf : (fun W : World => (W.cell? ⟨w.heap.size, 5, none⟩ = some (.int .i64 x5) ∧ W.cell? ⟨w.heap.size, 6, none⟩ = some (.int .i64 x6)) ∧ Below v14.heap.size v14 W) wf := ⟨⟨(bold hb9wf _ _ (la2)).trans S0.1.1, (bold hb9wf _ _ (la2)).trans S0.1.2⟩, hb9wf⟩
      clear hb8
      go_wp2_with fail
      refine hK.out _ _ Swf (fun _ => ?_)
      clear hK K
      try simp only [Act.put, List.setIfInBounds_toArray, List.set_cons_zero, List.set_cons_succ]
      refine any_take (i := 5) (some 42) (.string TA) rfl rfl (by kernel_rfl) (by kernel_rfl) (by kernel_rfl) (fun _ _ _ h => h) rfl (fun W hSw => ?_) (Swf) ?_
      · (try dsimp only at hSw); go_simp; rw [if_neg (by omega)]; rw [HTA.out]
      try simp only [Act.put, List.setIfInBounds_toArray, List.set_cons_zero, List.set_cons_succ]
      refine any_take (i := 6) (some 43) (.string TB) rfl rfl (by kernel_rfl) (by kernel_rfl) (by kernel_rfl) (fun _ _ _ h => h) rfl (fun W hSw => ?_) (Swf) ?_
      · (try dsimp only at hSw); go_simp; rw [if_neg (by first | omega | (have := (rfl : (⟨#[32]⟩ : ByteArray).size = 1); omega))]; rw [HTB.out]
      try simp only [Act.put, List.setIfInBounds_toArray, List.set_cons_zero, List.set_cons_succ]
      refine wpAnyH_ready (rs := [9]) (by kernel_rfl) (by simp) ?_
      refine AllReadyH.cons rfl (fun K hK => ?_) AllReadyH.nil
      go_simp
      go_at_call 22
      refine (fmtS8 _ x6 (by omega) (by omega)).mono ?_
      rintro e wg ⟨rfl, hb8⟩
      rw [HF6.out]
      have hb9wg : Below v14.heap.size v14 wg := bthen Swf.2 hb8
      have Swg : (fun W : World => (W.cell? ⟨w.heap.size, 5, none⟩ = some (.int .i64 x5) ∧ W.cell? ⟨w.heap.size, 6, none⟩ = some (.int .i64 x6)) ∧ Below v14.heap.size v14 W) wg := ⟨⟨(bold hb9wg _ _ (la2)).trans S0.1.1, (bold hb9wg _ _ (la2)).trans S0.1.2⟩, hb9wg⟩
      clear hb8
      go_wp2_with fail
      refine hK.out _ _ Swg (fun _ => ?_)
      clear hK K
      try simp only [Act.put, List.setIfInBounds_toArray, List.set_cons_zero, List.set_cons_succ]
      refine any_take (i := 10) (some 47) (.string TC) rfl rfl (by kernel_rfl) (by kernel_rfl) (by kernel_rfl) (fun _ _ _ h => h) rfl (fun W hSw => ?_) (Swg) ?_
      · (try dsimp only at hSw); go_simp; rw [if_neg (by omega)]; rw [HTC.out]
      try simp only [Act.put, List.setIfInBounds_toArray, List.set_cons_zero, List.set_cons_succ]
      refine any_take (i := 11) (some 2) (.string TC) rfl rfl (by kernel_rfl) (by kernel_rfl) (by kernel_rfl) (fun _ _ _ h => h) rfl (fun W hSw => ?_) (Swg) ?_
      · (try dsimp only at hSw); go_simp <;> with_reducible rfl
      try simp only [Act.put, List.setIfInBounds_toArray, List.set_cons_zero, List.set_cons_succ]
      refine wpAnyH_done (by kernel_rfl) ?_ _
      have hbreg : Below v14.heap.size v14 wg := Swg.2
      clear S0 Swf hb9wf Swg hb9wg
      go_wp2_with fail
      go_ret
      exact ⟨by rw [HEND.out]; rfl, bthen HB2.out hbreg⟩
  · skip
    go_simp
    try go_wp2_with fail
    generalize hX9 : (w1.alloc (.cells #[.string (⟨#[112, 108, 97, 99, 101, 100]⟩ : ByteArray), .string (⟨#[101, 120, 116, 101, 110, 100, 101, 100]⟩ : ByteArray), .string (⟨#[116, 97, 107, 101, 110]⟩ : ByteArray), .string (⟨#[102, 101, 116, 99, 104, 101, 100]⟩ : ByteArray)] 9)).drew = v15
    have hb8 : Below w1.drew.heap.size w1.drew v15 := by rw [← hX9]; exact balloc _ _
    have hnw : Has v15 w1.heap.size 9 #[.string (⟨#[112, 108, 97, 99, 101, 100]⟩ : ByteArray), .string (⟨#[101, 120, 116, 101, 110, 100, 101, 100]⟩ : ByteArray), .string (⟨#[116, 97, 107, 101, 110]⟩ : ByteArray), .string (⟨#[102, 101, 116, 99, 104, 101, 100]⟩ : ByteArray)] := by rw [← hX9]; exact has_new _ _ _
    clear hX9
    have Sv15o : (fun W : World => (W.cell? ⟨w.heap.size, 0, none⟩ = some (.int .i64 x0) ∧ W.cell? ⟨w.heap.size, 1, none⟩ = some (.int .i64 x1) ∧ W.cell? ⟨w.heap.size, 2, none⟩ = some (.int .i64 x2) ∧ W.cell? ⟨w.heap.size, 3, none⟩ = some (.int .i64 1) ∧ W.cell? ⟨w.heap.size, 4, none⟩ = some (.int .i64 x4) ∧ W.cell? ⟨w.heap.size, 5, none⟩ = some (.int .i64 x5) ∧ W.cell? ⟨w.heap.size, 6, none⟩ = some (.int .i64 x6)) ∧ Below w1.heap.size w1 W) v15 := ⟨⟨(bold hb8 _ _ (Nat.lt_of_lt_of_le la S0.2.size)).trans S0.1.1, (bold hb8 _ _ (Nat.lt_of_lt_of_le la S0.2.size)).trans S0.1.2.1, (bold hb8 _ _ (Nat.lt_of_lt_of_le la S0.2.size)).trans S0.1.2.2.1, (bold hb8 _ _ (Nat.lt_of_lt_of_le la S0.2.size)).trans S0.1.2.2.2.1, (bold hb8 _ _ (Nat.lt_of_lt_of_le la S0.2.size)).trans S0.1.2.2.2.2.1, (bold hb8 _ _ (Nat.lt_of_lt_of_le la S0.2.size)).trans S0.1.2.2.2.2.2.1, (bold hb8 _ _ (Nat.lt_of_lt_of_le la S0.2.size)).trans S0.1.2.2.2.2.2.2⟩, bthen S0.2 hb8⟩
    have Sv15 : (fun W : World => (W.cell? ⟨w1.heap.size, 0, none⟩ = some (.string (⟨#[112, 108, 97, 99, 101, 100]⟩ : ByteArray)) ∧ W.cell? ⟨w.heap.size, 0, none⟩ = some (.int .i64 x0) ∧ W.cell? ⟨w.heap.size, 1, none⟩ = some (.int .i64 x1) ∧ W.cell? ⟨w.heap.size, 2, none⟩ = some (.int .i64 x2) ∧ W.cell? ⟨w.heap.size, 3, none⟩ = some (.int .i64 1) ∧ W.cell? ⟨w.heap.size, 4, none⟩ = some (.int .i64 x4) ∧ W.cell? ⟨w.heap.size, 5, none⟩ = some (.int .i64 x5) ∧ W.cell? ⟨w.heap.size, 6, none⟩ = some (.int .i64 x6)) ∧ Below w1.heap.size w1 W) v15 := ⟨⟨has_cell hnw 0 rfl, Sv15o.1⟩, Sv15o.2⟩
    have lnv15 : w1.heap.size < v15.heap.size := has_lt hnw
    refine hK.out _ _ Sv15o (fun _ => ?_)
    clear hK K hb8 hnw Sv15o
    try simp only [Act.put, List.setIfInBounds_toArray, List.set_cons_zero, List.set_cons_succ]
    refine wpAnyH_strong (S2 := (fun W : World => (W.cell? ⟨w1.heap.size, 0, none⟩ = some (.string (⟨#[112, 108, 97, 99, 101, 100]⟩ : ByteArray)) ∧ W.cell? ⟨w.heap.size, 0, none⟩ = some (.int .i64 x0) ∧ W.cell? ⟨w.heap.size, 1, none⟩ = some (.int .i64 x1) ∧ W.cell? ⟨w.heap.size, 2, none⟩ = some (.int .i64 x2) ∧ W.cell? ⟨w.heap.size, 3, none⟩ = some (.int .i64 1) ∧ W.cell? ⟨w.heap.size, 4, none⟩ = some (.int .i64 x4) ∧ W.cell? ⟨w.heap.size, 5, none⟩ = some (.int .i64 x5) ∧ W.cell? ⟨w.heap.size, 6, none⟩ = some (.int .i64 x6)) ∧ Below w1.heap.size w1 W)) (fun W h => ⟨h.1.2, h.2⟩) ?_
    refine any_take (i := 18) (some 25) (.pointer (some ⟨w1.heap.size, 0, none⟩)) rfl rfl (by kernel_rfl) (by kernel_rfl) (by kernel_rfl) (fun _ _ _ h => h) rfl (fun W hSw => ?_) (Sv15) ?_
    · (try dsimp only at hSw); go_simp <;> with_reducible rfl
    try simp only [Act.put, List.setIfInBounds_toArray, List.set_cons_zero, List.set_cons_succ]
    refine any_take (i := 19) (some 26) (.string (⟨#[112, 108, 97, 99, 101, 100]⟩ : ByteArray)) rfl rfl (by kernel_rfl) (by kernel_rfl) (by kernel_rfl) (fun _ _ _ h => h) rfl (fun W hSw => ?_) (Sv15) ?_
    · (try dsimp only at hSw); go_simp <;> with_reducible rfl
    try simp only [Act.put, List.setIfInBounds_toArray, List.set_cons_zero, List.set_cons_succ]
    refine wpAnyH_ready (rs := [2]) (by kernel_rfl) (by simp) ?_
    refine (AllReadyH.cons rfl (fun K hK => ?_) AllReadyH.nil)
    go_simp
    go_at_call 22
    refine (fmtS8 _ x0 (by omega) (by omega)).mono ?_
    rintro e v16 ⟨rfl, hb8⟩
    rw [HF0.out]
    have Sv16 : (fun W : World => (W.cell? ⟨w1.heap.size, 0, none⟩ = some (.string (⟨#[112, 108, 97, 99, 101, 100]⟩ : ByteArray)) ∧ W.cell? ⟨w.heap.size, 0, none⟩ = some (.int .i64 x0) ∧ W.cell? ⟨w.heap.size, 1, none⟩ = some (.int .i64 x1) ∧ W.cell? ⟨w.heap.size, 2, none⟩ = some (.int .i64 x2) ∧ W.cell? ⟨w.heap.size, 3, none⟩ = some (.int .i64 1) ∧ W.cell? ⟨w.heap.size, 4, none⟩ = some (.int .i64 x4) ∧ W.cell? ⟨w.heap.size, 5, none⟩ = some (.int .i64 x5) ∧ W.cell? ⟨w.heap.size, 6, none⟩ = some (.int .i64 x6)) ∧ Below w1.heap.size w1 W) v16 := ⟨⟨(bold hb8 _ _ lnv15).trans Sv15.1.1, (bold hb8 _ _ (Nat.lt_of_lt_of_le la Sv15.2.size)).trans Sv15.1.2.1, (bold hb8 _ _ (Nat.lt_of_lt_of_le la Sv15.2.size)).trans Sv15.1.2.2.1, (bold hb8 _ _ (Nat.lt_of_lt_of_le la Sv15.2.size)).trans Sv15.1.2.2.2.1, (bold hb8 _ _ (Nat.lt_of_lt_of_le la Sv15.2.size)).trans Sv15.1.2.2.2.2.1, (bold hb8 _ _ (Nat.lt_of_lt_of_le la Sv15.2.size)).trans Sv15.1.2.2.2.2.2.1, (bold hb8 _ _ (Nat.lt_of_lt_of_le la Sv15.2.size)).trans Sv15.1.2.2.2.2.2.2.1, (bold hb8 _ _ (Nat.lt_of_lt_of_le la Sv15.2.size)).trans Sv15.1.2.2.2.2.2.2.2⟩, bthen Sv15.2 hb8⟩
    have lnv16 : w1.heap.size < v16.heap.size := Nat.lt_of_lt_of_le lnv15 hb8.size
    clear hb8
    go_wp2_with fail
    refine hK.out _ _ Sv16 (fun _ => ?_)
    clear hK K
    try simp only [Act.put, List.setIfInBounds_toArray, List.set_cons_zero, List.set_cons_succ]
    refine any_take (i := 3) (some 10) (.string T1) rfl rfl (by kernel_rfl) (by kernel_rfl) (by kernel_rfl) (fun _ _ _ h => h) rfl (fun W hSw => ?_) (Sv16) ?_
    · (try dsimp only at hSw); go_simp; rw [if_neg (by first | omega | (have := (rfl : (⟨#[46]⟩ : ByteArray).size = 1); omega))]; rw [HT1.out]
    try simp only [Act.put, List.setIfInBounds_toArray, List.set_cons_zero, List.set_cons_succ]
    refine wpAnyH_ready (rs := [6]) (by kernel_rfl) (by simp) ?_
    refine (AllReadyH.cons rfl (fun K hK => ?_) AllReadyH.nil)
    go_simp
    go_at_call 22
    refine (fmtS8 _ x1 (by omega) (by omega)).mono ?_
    rintro e v17 ⟨rfl, hb8⟩
    rw [HF1.out]
    have Sv17 : (fun W : World => (W.cell? ⟨w1.heap.size, 0, none⟩ = some (.string (⟨#[112, 108, 97, 99, 101, 100]⟩ : ByteArray)) ∧ W.cell? ⟨w.heap.size, 0, none⟩ = some (.int .i64 x0) ∧ W.cell? ⟨w.heap.size, 1, none⟩ = some (.int .i64 x1) ∧ W.cell? ⟨w.heap.size, 2, none⟩ = some (.int .i64 x2) ∧ W.cell? ⟨w.heap.size, 3, none⟩ = some (.int .i64 1) ∧ W.cell? ⟨w.heap.size, 4, none⟩ = some (.int .i64 x4) ∧ W.cell? ⟨w.heap.size, 5, none⟩ = some (.int .i64 x5) ∧ W.cell? ⟨w.heap.size, 6, none⟩ = some (.int .i64 x6)) ∧ Below w1.heap.size w1 W) v17 := ⟨⟨(bold hb8 _ _ lnv16).trans Sv16.1.1, (bold hb8 _ _ (Nat.lt_of_lt_of_le la Sv16.2.size)).trans Sv16.1.2.1, (bold hb8 _ _ (Nat.lt_of_lt_of_le la Sv16.2.size)).trans Sv16.1.2.2.1, (bold hb8 _ _ (Nat.lt_of_lt_of_le la Sv16.2.size)).trans Sv16.1.2.2.2.1, (bold hb8 _ _ (Nat.lt_of_lt_of_le la Sv16.2.size)).trans Sv16.1.2.2.2.2.1, (bold hb8 _ _ (Nat.lt_of_lt_of_le la Sv16.2.size)).trans Sv16.1.2.2.2.2.2.1, (bold hb8 _ _ (Nat.lt_of_lt_of_le la Sv16.2.size)).trans Sv16.1.2.2.2.2.2.2.1, (bold hb8 _ _ (Nat.lt_of_lt_of_le la Sv16.2.size)).trans Sv16.1.2.2.2.2.2.2.2⟩, bthen Sv16.2 hb8⟩
    have lnv17 : w1.heap.size < v17.heap.size := Nat.lt_of_lt_of_le lnv16 hb8.size
    clear hb8
    go_wp2_with fail
    refine hK.out _ _ Sv17 (fun _ => ?_)
    clear hK K
    try simp only [Act.put, List.setIfInBounds_toArray, List.set_cons_zero, List.set_cons_succ]
    refine any_take (i := 7) (some 14) (.string T2) rfl rfl (by kernel_rfl) (by kernel_rfl) (by kernel_rfl) (fun _ _ _ h => h) rfl (fun W hSw => ?_) (Sv17) ?_
    · (try dsimp only at hSw); go_simp; rw [if_neg (by omega)]; rw [HT2.out]
    try simp only [Act.put, List.setIfInBounds_toArray, List.set_cons_zero, List.set_cons_succ]
    refine any_take (i := 8) (some 15) (.string T3) rfl rfl (by kernel_rfl) (by kernel_rfl) (by kernel_rfl) (fun _ _ _ h => h) rfl (fun W hSw => ?_) (Sv17) ?_
    · (try dsimp only at hSw); go_simp; rw [if_neg (by first | omega | (have := (rfl : (⟨#[64]⟩ : ByteArray).size = 1); omega))]; rw [HT3.out]
    try simp only [Act.put, List.setIfInBounds_toArray, List.set_cons_zero, List.set_cons_succ]
    refine wpAnyH_ready (rs := [11]) (by kernel_rfl) (by simp) ?_
    refine (AllReadyH.cons rfl (fun K hK => ?_) AllReadyH.nil)
    go_simp
    go_at_call 22
    refine (fmtS8 _ x2 (by omega) (by omega)).mono ?_
    rintro e v18 ⟨rfl, hb8⟩
    rw [HF2.out]
    have Sv18 : (fun W : World => (W.cell? ⟨w1.heap.size, 0, none⟩ = some (.string (⟨#[112, 108, 97, 99, 101, 100]⟩ : ByteArray)) ∧ W.cell? ⟨w.heap.size, 0, none⟩ = some (.int .i64 x0) ∧ W.cell? ⟨w.heap.size, 1, none⟩ = some (.int .i64 x1) ∧ W.cell? ⟨w.heap.size, 2, none⟩ = some (.int .i64 x2) ∧ W.cell? ⟨w.heap.size, 3, none⟩ = some (.int .i64 1) ∧ W.cell? ⟨w.heap.size, 4, none⟩ = some (.int .i64 x4) ∧ W.cell? ⟨w.heap.size, 5, none⟩ = some (.int .i64 x5) ∧ W.cell? ⟨w.heap.size, 6, none⟩ = some (.int .i64 x6)) ∧ Below w1.heap.size w1 W) v18 := ⟨⟨(bold hb8 _ _ lnv17).trans Sv17.1.1, (bold hb8 _ _ (Nat.lt_of_lt_of_le la Sv17.2.size)).trans Sv17.1.2.1, (bold hb8 _ _ (Nat.lt_of_lt_of_le la Sv17.2.size)).trans Sv17.1.2.2.1, (bold hb8 _ _ (Nat.lt_of_lt_of_le la Sv17.2.size)).trans Sv17.1.2.2.2.1, (bold hb8 _ _ (Nat.lt_of_lt_of_le la Sv17.2.size)).trans Sv17.1.2.2.2.2.1, (bold hb8 _ _ (Nat.lt_of_lt_of_le la Sv17.2.size)).trans Sv17.1.2.2.2.2.2.1, (bold hb8 _ _ (Nat.lt_of_lt_of_le la Sv17.2.size)).trans Sv17.1.2.2.2.2.2.2.1, (bold hb8 _ _ (Nat.lt_of_lt_of_le la Sv17.2.size)).trans Sv17.1.2.2.2.2.2.2.2⟩, bthen Sv17.2 hb8⟩
    have lnv18 : w1.heap.size < v18.heap.size := Nat.lt_of_lt_of_le lnv17 hb8.size
    clear hb8
    go_wp2_with fail
    refine hK.out _ _ Sv18 (fun _ => ?_)
    clear hK K
    try simp only [Act.put, List.setIfInBounds_toArray, List.set_cons_zero, List.set_cons_succ]
    refine any_take (i := 12) (some 19) (.string T4) rfl rfl (by kernel_rfl) (by kernel_rfl) (by kernel_rfl) (fun _ _ _ h => h) rfl (fun W hSw => ?_) (Sv18) ?_
    · (try dsimp only at hSw); go_simp; rw [if_neg (by omega)]; rw [HT4.out]
    try simp only [Act.put, List.setIfInBounds_toArray, List.set_cons_zero, List.set_cons_succ]
    refine any_take (i := 13) (some 20) (.string T5) rfl rfl (by kernel_rfl) (by kernel_rfl) (by kernel_rfl) (fun _ _ _ h => h) rfl (fun W hSw => ?_) (Sv18) ?_
    · (try dsimp only at hSw); go_simp; rw [if_neg (by first | omega | (have := (rfl : (⟨#[32]⟩ : ByteArray).size = 1); omega))]; rw [HT5.out]
    try simp only [Act.put, List.setIfInBounds_toArray, List.set_cons_zero, List.set_cons_succ]
    refine any_take (i := 20) (some 27) (.string T6) rfl rfl (by kernel_rfl) (by kernel_rfl) (by kernel_rfl) (fun _ _ _ h => h) rfl (fun W hSw => ?_) (Sv18) ?_
    · (try dsimp only at hSw); go_simp; rw [if_neg (by first | omega | (have := (rfl : (⟨#[112, 108, 97, 99, 101, 100]⟩ : ByteArray).size = 6); omega))]; rw [HT6.out]
    try simp only [Act.put, List.setIfInBounds_toArray, List.set_cons_zero, List.set_cons_succ]
    refine any_take (i := 21) (some 28) (.string T7) rfl rfl (by kernel_rfl) (by kernel_rfl) (by kernel_rfl) (fun _ _ _ h => h) rfl (fun W hSw => ?_) (Sv18) ?_
    · (try dsimp only at hSw); go_simp; rw [if_neg (by first | omega | (have := (rfl : (⟨#[32]⟩ : ByteArray).size = 1); omega))]; rw [HT7.out]
    try simp only [Act.put, List.setIfInBounds_toArray, List.set_cons_zero, List.set_cons_succ]
    refine wpAnyH_ready (rs := [24]) (by kernel_rfl) (by simp) ?_
    refine (AllReadyH.cons rfl (fun K hK => ?_) AllReadyH.nil)
    go_simp
    go_at_call 22
    refine (fmtS8 _ x4 (by omega) (by omega)).mono ?_
    rintro e v19 ⟨rfl, hb8⟩
    rw [HF4.out]
    have Sv19 : (fun W : World => (W.cell? ⟨w1.heap.size, 0, none⟩ = some (.string (⟨#[112, 108, 97, 99, 101, 100]⟩ : ByteArray)) ∧ W.cell? ⟨w.heap.size, 0, none⟩ = some (.int .i64 x0) ∧ W.cell? ⟨w.heap.size, 1, none⟩ = some (.int .i64 x1) ∧ W.cell? ⟨w.heap.size, 2, none⟩ = some (.int .i64 x2) ∧ W.cell? ⟨w.heap.size, 3, none⟩ = some (.int .i64 1) ∧ W.cell? ⟨w.heap.size, 4, none⟩ = some (.int .i64 x4) ∧ W.cell? ⟨w.heap.size, 5, none⟩ = some (.int .i64 x5) ∧ W.cell? ⟨w.heap.size, 6, none⟩ = some (.int .i64 x6)) ∧ Below w1.heap.size w1 W) v19 := ⟨⟨(bold hb8 _ _ lnv18).trans Sv18.1.1, (bold hb8 _ _ (Nat.lt_of_lt_of_le la Sv18.2.size)).trans Sv18.1.2.1, (bold hb8 _ _ (Nat.lt_of_lt_of_le la Sv18.2.size)).trans Sv18.1.2.2.1, (bold hb8 _ _ (Nat.lt_of_lt_of_le la Sv18.2.size)).trans Sv18.1.2.2.2.1, (bold hb8 _ _ (Nat.lt_of_lt_of_le la Sv18.2.size)).trans Sv18.1.2.2.2.2.1, (bold hb8 _ _ (Nat.lt_of_lt_of_le la Sv18.2.size)).trans Sv18.1.2.2.2.2.2.1, (bold hb8 _ _ (Nat.lt_of_lt_of_le la Sv18.2.size)).trans Sv18.1.2.2.2.2.2.2.1, (bold hb8 _ _ (Nat.lt_of_lt_of_le la Sv18.2.size)).trans Sv18.1.2.2.2.2.2.2.2⟩, bthen Sv18.2 hb8⟩
    have lnv19 : w1.heap.size < v19.heap.size := Nat.lt_of_lt_of_le lnv18 hb8.size
    clear hb8
    go_wp2_with fail
    refine hK.out _ _ Sv19 (fun _ => ?_)
    clear hK K
    try simp only [Act.put, List.setIfInBounds_toArray, List.set_cons_zero, List.set_cons_succ]
    refine any_take (i := 25) (some 32) (.string T8) rfl rfl (by kernel_rfl) (by kernel_rfl) (by kernel_rfl) (fun _ _ _ h => h) rfl (fun W hSw => ?_) (Sv19) ?_
    · (try dsimp only at hSw); go_simp; rw [if_neg (by omega)]; rw [HT8.out]
    try simp only [Act.put, List.setIfInBounds_toArray, List.set_cons_zero, List.set_cons_succ]
    refine any_take (i := 26) (some 3) (.string T8) rfl rfl (by kernel_rfl) (by kernel_rfl) (by kernel_rfl) (fun _ _ _ h => h) rfl (fun W hSw => ?_) (Sv19) ?_
    · (try dsimp only at hSw); go_simp <;> with_reducible rfl
    try simp only [Act.put, List.setIfInBounds_toArray, List.set_cons_zero, List.set_cons_succ]
    refine wpAnyH_done (by kernel_rfl) ?_ _
    have q0 := Sv19.1.2.1; have q1 := Sv19.1.2.2.1; have q2 := Sv19.1.2.2.2.1; have q3 := Sv19.1.2.2.2.2.1; have q4 := Sv19.1.2.2.2.2.2.1; have q5 := Sv19.1.2.2.2.2.2.2.1; have q6 := Sv19.1.2.2.2.2.2.2.2
    have hbreg := Sv19.2
    have la2 : w.heap.size < v19.heap.size := Nat.lt_of_lt_of_le la hbreg.size
    have HB2 := Lib.hid (bthen HB1.out hbreg); clear hbreg
    go_wp2_with fail
    have S0 : (fun W : World => (W.cell? ⟨w.heap.size, 5, none⟩ = some (.int .i64 x5) ∧ W.cell? ⟨w.heap.size, 6, none⟩ = some (.int .i64 x6)) ∧ Below v19.heap.size v19 W) v19.drew := ⟨⟨q5, q6⟩, (Below.refl _ _).drew⟩
    clear q5 q6
    refine wp_region_held_drew (S := (fun W : World => (W.cell? ⟨w.heap.size, 5, none⟩ = some (.int .i64 x5) ∧ W.cell? ⟨w.heap.size, 6, none⟩ = some (.int .i64 x6)) ∧ Below v19.heap.size v19 W)) (by kernel_rfl) S0 (fun _ => ?_)
    refine any_take (i := 0) (some 37) (.string T8) rfl rfl (by kernel_rfl) (by kernel_rfl) (by kernel_rfl) (fun _ _ _ h => h) rfl (fun W hSw => ?_) (S0) ?_
    · (try dsimp only at hSw); go_simp <;> with_reducible rfl
    try simp only [Act.put, List.setIfInBounds_toArray, List.set_cons_zero, List.set_cons_succ]
    refine any_take (i := 1) (some 38) (.string T9) rfl rfl (by kernel_rfl) (by kernel_rfl) (by kernel_rfl) (fun _ _ _ h => h) rfl (fun W hSw => ?_) (S0) ?_
    · (try dsimp only at hSw); go_simp; rw [if_neg (by first | omega | (have := (rfl : (⟨#[32]⟩ : ByteArray).size = 1); omega))]; rw [HT9.out]
    try simp only [Act.put, List.setIfInBounds_toArray, List.set_cons_zero, List.set_cons_succ]
    refine any_take (i := 2) (some 39) (.pointer (some ⟨w.heap.size, 5, none⟩)) rfl rfl (by kernel_rfl) (by kernel_rfl) (by kernel_rfl) (fun _ _ _ h => h) rfl (fun W hSw => ?_) (S0) ?_
    · (try dsimp only at hSw); go_simp <;> with_reducible rfl
    try simp only [Act.put, List.setIfInBounds_toArray, List.set_cons_zero, List.set_cons_succ]
    refine any_take (i := 3) (some 40) (.int .i64 x5) rfl rfl (by kernel_rfl) (by kernel_rfl) (by kernel_rfl) (fun _ _ _ h => h) rfl (fun W hSw => ?_) (S0) ?_
    · (try dsimp only at hSw); go_simp <;> with_reducible rfl
    try simp only [Act.put, List.setIfInBounds_toArray, List.set_cons_zero, List.set_cons_succ]
    refine any_take (i := 7) (some 44) (.pointer (some ⟨w.heap.size, 6, none⟩)) rfl rfl (by kernel_rfl) (by kernel_rfl) (by kernel_rfl) (fun _ _ _ h => h) rfl (fun W hSw => ?_) (S0) ?_
    · (try dsimp only at hSw); go_simp <;> with_reducible rfl
    try simp only [Act.put, List.setIfInBounds_toArray, List.set_cons_zero, List.set_cons_succ]
    refine any_take (i := 8) (some 45) (.int .i64 x6) rfl rfl (by kernel_rfl) (by kernel_rfl) (by kernel_rfl) (fun _ _ _ h => h) rfl (fun W hSw => ?_) (S0) ?_
    · (try dsimp only at hSw); go_simp <;> with_reducible rfl
    try simp only [Act.put, List.setIfInBounds_toArray, List.set_cons_zero, List.set_cons_succ]
    refine wpAnyH_ready (rs := [4]) (by kernel_rfl) (by simp) ?_
    refine AllReadyH.cons rfl (fun K hK => ?_) AllReadyH.nil
    go_simp
    go_at_call 22
    refine (fmtS8 _ x5 (by omega) (by omega)).mono ?_
    rintro e wf ⟨rfl, hb8⟩
    rw [HF5.out]
    have hb9wf : Below v19.heap.size v19 wf := bthen ((Below.refl _ _).drew : Below v19.heap.size v19 v19.drew) hb8
    have Swf : (fun W : World => (W.cell? ⟨w.heap.size, 5, none⟩ = some (.int .i64 x5) ∧ W.cell? ⟨w.heap.size, 6, none⟩ = some (.int .i64 x6)) ∧ Below v19.heap.size v19 W) wf := ⟨⟨(bold hb9wf _ _ (la2)).trans S0.1.1, (bold hb9wf _ _ (la2)).trans S0.1.2⟩, hb9wf⟩
    clear hb8
    go_wp2_with fail
    refine hK.out _ _ Swf (fun _ => ?_)
    clear hK K
    try simp only [Act.put, List.setIfInBounds_toArray, List.set_cons_zero, List.set_cons_succ]
    refine any_take (i := 5) (some 42) (.string TA) rfl rfl (by kernel_rfl) (by kernel_rfl) (by kernel_rfl) (fun _ _ _ h => h) rfl (fun W hSw => ?_) (Swf) ?_
    · (try dsimp only at hSw); go_simp; rw [if_neg (by omega)]; rw [HTA.out]
    try simp only [Act.put, List.setIfInBounds_toArray, List.set_cons_zero, List.set_cons_succ]
    refine any_take (i := 6) (some 43) (.string TB) rfl rfl (by kernel_rfl) (by kernel_rfl) (by kernel_rfl) (fun _ _ _ h => h) rfl (fun W hSw => ?_) (Swf) ?_
    · (try dsimp only at hSw); go_simp; rw [if_neg (by first | omega | (have := (rfl : (⟨#[32]⟩ : ByteArray).size = 1); omega))]; rw [HTB.out]
    try simp only [Act.put, List.setIfInBounds_toArray, List.set_cons_zero, List.set_cons_succ]
    refine wpAnyH_ready (rs := [9]) (by kernel_rfl) (by simp) ?_
    refine AllReadyH.cons rfl (fun K hK => ?_) AllReadyH.nil
    go_simp
    go_at_call 22
    refine (fmtS8 _ x6 (by omega) (by omega)).mono ?_
    rintro e wg ⟨rfl, hb8⟩
    rw [HF6.out]
    have hb9wg : Below v19.heap.size v19 wg := bthen Swf.2 hb8
    have Swg : (fun W : World => (W.cell? ⟨w.heap.size, 5, none⟩ = some (.int .i64 x5) ∧ W.cell? ⟨w.heap.size, 6, none⟩ = some (.int .i64 x6)) ∧ Below v19.heap.size v19 W) wg := ⟨⟨(bold hb9wg _ _ (la2)).trans S0.1.1, (bold hb9wg _ _ (la2)).trans S0.1.2⟩, hb9wg⟩
    clear hb8
    go_wp2_with fail
    refine hK.out _ _ Swg (fun _ => ?_)
    clear hK K
    try simp only [Act.put, List.setIfInBounds_toArray, List.set_cons_zero, List.set_cons_succ]
    refine any_take (i := 10) (some 47) (.string TC) rfl rfl (by kernel_rfl) (by kernel_rfl) (by kernel_rfl) (fun _ _ _ h => h) rfl (fun W hSw => ?_) (Swg) ?_
    · (try dsimp only at hSw); go_simp; rw [if_neg (by omega)]; rw [HTC.out]
    try simp only [Act.put, List.setIfInBounds_toArray, List.set_cons_zero, List.set_cons_succ]
    refine any_take (i := 11) (some 2) (.string TC) rfl rfl (by kernel_rfl) (by kernel_rfl) (by kernel_rfl) (fun _ _ _ h => h) rfl (fun W hSw => ?_) (Swg) ?_
    · (try dsimp only at hSw); go_simp <;> with_reducible rfl
    try simp only [Act.put, List.setIfInBounds_toArray, List.set_cons_zero, List.set_cons_succ]
    refine wpAnyH_done (by kernel_rfl) ?_ _
    have hbreg : Below v19.heap.size v19 wg := Swg.2
    clear S0 Swf hb9wf Swg hb9wg
    go_wp2_with fail
    go_ret
    exact ⟨by rw [HEND.out]; rfl, bthen HB2.out hbreg⟩
end Go.Proofs.YtgmdplhaofhliaaDoor
