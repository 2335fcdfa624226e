/- Chapter 8: what orders events by their names (gen_evs.py SEAT names). -/
import Derived.Test.YtdcejkompdbliaaDoorEvS
namespace Go.Proofs.YtdcejkompdbliaaDoor
open Go.RowKit
set_option linter.unusedVariables false
set_option maxRecDepth 100000 in
set_option maxHeartbeats 2000000 in
theorem cmpN_any (w : World) (x0 x1 x2 x3 x4 x5 x6 y0 y1 y2 y3 y4 y5 y6 : Int) : Calls Tryd.prog 32 #[.agg #[.int .i64 x0, .int .i64 x1, .int .i64 x2, .int .i64 x3, .int .i64 x4, .int .i64 x5, .int .i64 x6], .agg #[.int .i64 y0, .int .i64 y1, .int .i64 y2, .int .i64 y3, .int .i64 y4, .int .i64 y5, .int .i64 y6]] w fun e w' => e = .returned (.int .i64 (cmpN ⟨x0, x1, x2, x3, x4, x5, x6⟩ ⟨y0, y1, y2, y3, y4, y5, y6⟩)) ∧ Grown w w' := by
  have HV := Lib.hid (show cmpN ⟨x0, x1, x2, x3, x4, x5, x6⟩ ⟨y0, y1, y2, y3, y4, y5, y6⟩ = orV (cmpV x0 y0) (cmpV x1 y1) from rfl)
  go_enter Tryd.func32, Tryd.ntmps32
  go_wp2_with fail
  generalize hX : (w.alloc (.cells #[.int .i64 x0, .int .i64 x1, .int .i64 x2, .int .i64 x3, .int .i64 x4, .int .i64 x5, .int .i64 x6] 40)) = w0
  generalize hY : (w0.alloc (.cells #[.int .i64 y0, .int .i64 y1, .int .i64 y2, .int .i64 y3, .int .i64 y4, .int .i64 y5, .int .i64 y6] 40)) = w1
  have hs0 : w0.heap.size = w.heap.size + 1 := by rw [← hX]; simp
  have hb1 : Grown w w1 := by rw [← hY, ← hX]; exact (grown_alloc _ _).trans (grown_alloc _ _)
  have za : Has w1 w.heap.size 40 #[.int .i64 x0, .int .i64 x1, .int .i64 x2, .int .i64 x3, .int .i64 x4, .int .i64 x5, .int .i64 x6] := by rw [← hY, ← hX]; exact has_alloc (has_new _ _ _) _
  have zb : Has w1 (w.heap.size + 1) 40 #[.int .i64 y0, .int .i64 y1, .int .i64 y2, .int .i64 y3, .int .i64 y4, .int .i64 y5, .int .i64 y6] := by rw [← hY, ← hs0]; exact has_new _ _ _
  clear hX hY hs0
  have p0 := has_cell za 0 rfl; have p1 := has_cell za 1 rfl; have q0 := has_cell zb 0 rfl; have q1 := has_cell zb 1 rfl
  have la := has_lt za; have lb := has_lt zb
  obtain ⟨c1, hc1⟩ : ∃ c, cmpV x0 y0 = c := ⟨_, rfl⟩; obtain ⟨c2, hc2⟩ : ∃ c, cmpV x1 y1 = c := ⟨_, rfl⟩
  have HC1 := Lib.hid hc1; have HC2 := Lib.hid hc2; have HB1 := Lib.hid hb1; clear hc1 hc2 hb1
  clear za zb
  have S0 : (fun W : World => (W.cell? ⟨w.heap.size, 0, none⟩ = some (.int .i64 x0) ∧ W.cell? ⟨w.heap.size, 1, none⟩ = some (.int .i64 x1) ∧ W.cell? ⟨w.heap.size + 1, 0, none⟩ = some (.int .i64 y0) ∧ W.cell? ⟨w.heap.size + 1, 1, none⟩ = some (.int .i64 y1)) ∧ Grown w1 W) w1.drew := ⟨⟨p0, p1, q0, q1⟩, grown_drew _⟩
  clear p0 p1 q0 q1
  refine wp_region_held_drew (S := (fun W : World => (W.cell? ⟨w.heap.size, 0, none⟩ = some (.int .i64 x0) ∧ W.cell? ⟨w.heap.size, 1, none⟩ = some (.int .i64 x1) ∧ W.cell? ⟨w.heap.size + 1, 0, none⟩ = some (.int .i64 y0) ∧ W.cell? ⟨w.heap.size + 1, 1, none⟩ = some (.int .i64 y1)) ∧ Grown w1 W)) (by kernel_rfl) S0 (fun _ => ?_)
  refine any_take (i := 0) (some 5) (.pointer (some ⟨w.heap.size, 0, none⟩)) rfl rfl (by kernel_rfl) (by kernel_rfl) (by kernel_rfl) (fun _ _ _ h => h) rfl (fun W hSw => ?_) (S0) ?_
  · (try dsimp only at hSw); go_simp <;> with_reducible rfl
  try simp only [Act.put, List.setIfInBounds_toArray, List.set_cons_zero, List.set_cons_succ]
  refine any_take (i := 1) (some 6) (.int .i64 x0) rfl rfl (by kernel_rfl) (by kernel_rfl) (by kernel_rfl) (fun _ _ _ h => h) rfl (fun W hSw => ?_) (S0) ?_
  · (try dsimp only at hSw); go_simp <;> with_reducible rfl
  try simp only [Act.put, List.setIfInBounds_toArray, List.set_cons_zero, List.set_cons_succ]
  refine any_take (i := 2) (some 7) (.pointer (some ⟨w.heap.size + 1, 0, none⟩)) rfl rfl (by kernel_rfl) (by kernel_rfl) (by kernel_rfl) (fun _ _ _ h => h) rfl (fun W hSw => ?_) (S0) ?_
  · (try dsimp only at hSw); go_simp <;> with_reducible rfl
  try simp only [Act.put, List.setIfInBounds_toArray, List.set_cons_zero, List.set_cons_succ]
  refine any_take (i := 3) (some 8) (.int .i64 y0) rfl rfl (by kernel_rfl) (by kernel_rfl) (by kernel_rfl) (fun _ _ _ h => h) rfl (fun W hSw => ?_) (S0) ?_
  · (try dsimp only at hSw); go_simp <;> with_reducible rfl
  try simp only [Act.put, List.setIfInBounds_toArray, List.set_cons_zero, List.set_cons_succ]
  refine any_take (i := 5) (some 10) (.pointer (some ⟨w.heap.size, 1, none⟩)) rfl rfl (by kernel_rfl) (by kernel_rfl) (by kernel_rfl) (fun _ _ _ h => h) rfl (fun W hSw => ?_) (S0) ?_
  · (try dsimp only at hSw); go_simp <;> with_reducible rfl
  try simp only [Act.put, List.setIfInBounds_toArray, List.set_cons_zero, List.set_cons_succ]
  refine any_take (i := 6) (some 11) (.int .i64 x1) rfl rfl (by kernel_rfl) (by kernel_rfl) (by kernel_rfl) (fun _ _ _ h => h) rfl (fun W hSw => ?_) (S0) ?_
  · (try dsimp only at hSw); go_simp <;> with_reducible rfl
  try simp only [Act.put, List.setIfInBounds_toArray, List.set_cons_zero, List.set_cons_succ]
  refine any_take (i := 7) (some 12) (.pointer (some ⟨w.heap.size + 1, 1, none⟩)) rfl rfl (by kernel_rfl) (by kernel_rfl) (by kernel_rfl) (fun _ _ _ h => h) rfl (fun W hSw => ?_) (S0) ?_
  · (try dsimp only at hSw); go_simp <;> with_reducible rfl
  try simp only [Act.put, List.setIfInBounds_toArray, List.set_cons_zero, List.set_cons_succ]
  refine any_take (i := 8) (some 13) (.int .i64 y1) rfl rfl (by kernel_rfl) (by kernel_rfl) (by kernel_rfl) (fun _ _ _ h => h) rfl (fun W hSw => ?_) (S0) ?_
  · (try dsimp only at hSw); go_simp <;> with_reducible rfl
  try simp only [Act.put, List.setIfInBounds_toArray, List.set_cons_zero, List.set_cons_succ]
  refine wpAnyH_ready (rs := [4]) (by kernel_rfl) (by simp) ?_
  refine AllReadyH.cons rfl (fun K hK => ?_) AllReadyH.nil
  go_simp
  go_at_call 44
  refine (cmpV_any _ x0 y0).mono ?_
  rintro e wa ⟨rfl, hw8⟩; rw [hw8]; clear hw8 wa
  rw [HC1.out]
  go_wp2_with fail
  refine hK.out _ _ S0 (fun _ => ?_)
  clear hK K
  try simp only [Act.put, List.setIfInBounds_toArray, List.set_cons_zero, List.set_cons_succ]
  refine wpAnyH_ready (rs := [9]) (by kernel_rfl) (by simp) ?_
  refine AllReadyH.cons rfl (fun K hK => ?_) AllReadyH.nil
  go_simp
  go_at_call 44
  refine (cmpV_any _ x1 y1).mono ?_
  rintro e wb ⟨rfl, hw8⟩; rw [hw8]; clear hw8 wb
  rw [HC2.out]
  go_wp2_with fail
  refine hK.out _ _ S0 (fun _ => ?_)
  clear hK K
  try simp only [Act.put, List.setIfInBounds_toArray, List.set_cons_zero, List.set_cons_succ]
  refine wpAnyH_ready (rs := [10]) (by kernel_rfl) (by simp) ?_
  refine AllReadyH.cons rfl (fun K hK => ?_) AllReadyH.nil
  go_simp
  try go_wp2_with fail
  generalize hX9 : (w1.alloc (.cells #[.int .i64 c1, .int .i64 c2] 3)).drew = ws
  have hb8 : Grown w1.drew ws := by rw [← hX9]; exact grown_alloc _ _
  have hbs : Has ws w1.heap.size 3 #[.int .i64 c1, .int .i64 c2] := by rw [← hX9]; exact has_new _ _ _
  clear hX9
  have hb9ws : Grown w1 ws := (S0.2).trans hb8
  have Sws : (fun W : World => (W.cell? ⟨w.heap.size, 0, none⟩ = some (.int .i64 x0) ∧ W.cell? ⟨w.heap.size, 1, none⟩ = some (.int .i64 x1) ∧ W.cell? ⟨w.heap.size + 1, 0, none⟩ = some (.int .i64 y0) ∧ W.cell? ⟨w.heap.size + 1, 1, none⟩ = some (.int .i64 y1)) ∧ Grown w1 W) ws := ⟨⟨(bold hb9ws.below _ _ (la)).trans S0.1.1, (bold hb9ws.below _ _ (la)).trans S0.1.2.1, (bold hb9ws.below _ _ (lb)).trans S0.1.2.2.1, (bold hb9ws.below _ _ (lb)).trans S0.1.2.2.2⟩, hb9ws⟩
  clear hb8
  refine hK.out _ _ Sws (fun _ => ?_)
  clear hK K
  try simp only [Act.put, List.setIfInBounds_toArray, List.set_cons_zero, List.set_cons_succ]
  refine wpAnyH_ready (rs := [11]) (by kernel_rfl) (by simp) ?_
  refine AllReadyH.cons rfl (fun K hK => ?_) AllReadyH.nil
  go_simp
  go_at_call 43
  refine (orV_any _ _ _ c1 c2 hbs).mono ?_
  rintro e wc ⟨rfl, hw8⟩; rw [hw8]; clear hw8 wc
  go_wp2_with fail
  refine hK.out _ _ Sws (fun _ => ?_)
  clear hK K
  try simp only [Act.put, List.setIfInBounds_toArray, List.set_cons_zero, List.set_cons_succ]
  refine any_take (i := 12) (some 4) (.int .i64 (orV c1 c2)) rfl rfl (by kernel_rfl) (by kernel_rfl) (by kernel_rfl) (fun _ _ _ h => h) rfl (fun W hSw => ?_) (Sws) ?_
  · (try dsimp only at hSw); go_simp <;> with_reducible rfl
  try simp only [Act.put, List.setIfInBounds_toArray, List.set_cons_zero, List.set_cons_succ]
  refine wpAnyH_done (by kernel_rfl) ?_ _
  have hbreg : Grown w1 ws := Sws.2
  clear S0 Sws hb9ws
  go_wp2_with fail
  go_ret
  exact ⟨rint (by rw [HV.out, HC1.out, HC2.out]), HB1.out.trans hbreg⟩
end Go.Proofs.YtdcejkompdbliaaDoor
