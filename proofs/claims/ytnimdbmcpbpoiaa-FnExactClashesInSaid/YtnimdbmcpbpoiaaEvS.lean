/- Chapter 8: what orders events (gen_evs.py). -/
import Derived.Test.YtnimdbmcpbpoiaaEvQ
import Derived.Test.YtnimdbmcpbpoiaaAny
import Derived.Sort.Grow
import Derived.Sort.WalkA
namespace Go.Proofs.Ytnimdbmcpbpoiaa
open Go.RowKit
set_option linter.unusedVariables false
/-- only draws and new blocks -/
def Grown (W W' : World) : Prop := ∃ q os, W' = Sort.grow (W.drewN q) os
theorem grown_refl (W : World) : Grown W W := ⟨0, #[], by rw [Sort.grow_empty]; rfl⟩
theorem grown_drew (W : World) : Grown W W.drew := ⟨1, #[], by rw [Sort.grow_empty]; rfl⟩
theorem grown_alloc (W : World) (o : Obj) : Grown W (W.alloc o) := ⟨0, #[o], by rw [Sort.alloc_eq_grow]; rfl⟩
theorem grown_of_eq {W W' : World} (h : W' = W) : Grown W W' := h ▸ grown_refl W
theorem Grown.trans {a b c : World} (h : Grown a b) (k : Grown b c) : Grown a c := by
  obtain ⟨q, os, rfl⟩ := h; obtain ⟨p, us, rfl⟩ := k
  refine ⟨q + p, os ++ us, ?_⟩
  rw [← Sort.grow_grow]
  simp only [World.drewN, Sort.grow, Nat.add_assoc]
theorem Grown.below {a b : World} (h : Grown a b) : Below a.heap.size a b := by
  obtain ⟨q, os, rfl⟩ := h
  exact ⟨rfl, rfl, rfl, by simp [Sort.grow, World.drewN], fun k hk => by
    exact (Sort.heap_grow_old (a.drewN q) os (k := k) (by exact hk))⟩
def cmpV (x y : Int) : Int := if x < y then -1 else if y < x then 1 else 0
def orV (a b : Int) : Int := if a = 0 then b else a
def cmpS (x y : Ev) : Int := orV (cmpV x.stm y.stm) (cmpV x.nod y.nod)
def cmpN (x y : Ev) : Int := orV (cmpV x.nod y.nod) (cmpV x.seq y.seq)
theorem cmpS_neg {x y : Ev} : cmpS x y < 0 ↔ x.stm < y.stm ∨ (x.stm = y.stm ∧ x.nod < y.nod) := by
  unfold cmpS orV cmpV; split <;> split <;> (try split) <;> (try split) <;> omega
theorem cmpN_neg {x y : Ev} : cmpN x y < 0 ↔ x.nod < y.nod ∨ (x.nod = y.nod ∧ x.seq < y.seq) := by
  unfold cmpN orV cmpV; split <;> split <;> (try split) <;> (try split) <;> omega
theorem nan_any (w : World) (x : Int) : Calls Try.prog 57 #[.int .i64 x] w fun e w' => e = .returned (.bool false) ∧ w' = w := by
  have h : (x != x) = false := by simp
  go_enter Try.func57, Try.ntmps57
  go_wp2
  go_ret
  exact ⟨rfl, rfl⟩
set_option maxRecDepth 100000 in
theorem cmpV_any (w : World) (x y : Int) : Calls Try.prog 40 #[.int .i64 x, .int .i64 y] w fun e w' => e = .returned (.int .i64 (cmpV x y)) ∧ w' = w := by
  have hc : x < y ∨ (¬ x < y ∧ y < x) ∨ (¬ x < y ∧ ¬ y < x) := by omega
  rcases hc with h1 | ⟨h1, h2⟩ | ⟨h1, h2⟩
  · have HV := Lib.hid (show cmpV x y = -1 by unfold cmpV; rw [if_pos h1])
    go_enter Try.func40, Try.ntmps40
    go_wp2_with (go_at_call 57; refine (nan_any _ _).mono ?_; rintro e w1 ⟨rfl, hw⟩; rw [hw]; clear hw)
    go_ret
    exact ⟨rint HV.out.symm, rfl⟩
  · have HV := Lib.hid (show cmpV x y = 1 by unfold cmpV; rw [if_neg h1, if_pos h2])
    go_enter Try.func40, Try.ntmps40
    go_wp2_with (go_at_call 57; refine (nan_any _ _).mono ?_; rintro e w1 ⟨rfl, hw⟩; rw [hw]; clear hw)
    go_ret
    exact ⟨rint HV.out.symm, rfl⟩
  · have HV := Lib.hid (show cmpV x y = 0 by unfold cmpV; rw [if_neg h1, if_neg h2])
    go_enter Try.func40, Try.ntmps40
    go_wp2_with (go_at_call 57; refine (nan_any _ _).mono ?_; rintro e w1 ⟨rfl, hw⟩; rw [hw]; clear hw)
    go_ret
    exact ⟨rint HV.out.symm, rfl⟩
set_option maxRecDepth 100000 in
theorem orV_any (w : World) (g c : Nat) (a b : Int) (h : Has w g 3 #[.int .i64 a, .int .i64 b]) : Calls Try.prog 39 #[.slice (some ⟨g, 0, none⟩) 2 c] w fun e w' => e = .returned (.int .i64 (orV a b)) ∧ w' = w := by
  have c0 := has_cell h 0 rfl; have c1 := has_cell h 1 rfl
  clear h
  by_cases ha : a = 0
  · by_cases hb : b = 0
    · subst ha; subst hb
      go_enter Try.func39, Try.ntmps39
      go_wp2
      go_loopw [8] (fun i wr => wr = w ∧ ∃ k : Nat, k ≤ 2 ∧ i = .int .i64 k) (fun i _ => 2 - (intOf i).toNat)
      case atStart => exact ⟨rfl, 0, by omega, rfl⟩
      case round =>
        obtain ⟨rfl, k, hk, rfl⟩ := hrel
        have hkc : k = 0 ∨ k = 1 ∨ k = 2 := by omega
        rcases hkc with rfl | rfl | rfl
        · go_wp2
          go_roundw
          case rel => exact ⟨(by first | trivial | rfl), 1, by omega, rfl⟩
          case measure => simp [intOf]
        · go_wp2
          go_roundw
          case rel => exact ⟨(by first | trivial | rfl), 2, by omega, rfl⟩
          case measure => simp [intOf]
        · go_wp2
          go_ret
          exact ⟨rfl, rfl⟩
    · subst ha
      have HV := Lib.hid (show orV 0 b = b from rfl)
      have nb : (b != 0) = true := by simp [hb]
      clear hb
      go_enter Try.func39, Try.ntmps39
      go_wp2
      go_loopw [8] (fun i wr => wr = w ∧ ∃ k : Nat, k ≤ 1 ∧ i = .int .i64 k) (fun i _ => 2 - (intOf i).toNat)
      case atStart => exact ⟨rfl, 0, by omega, rfl⟩
      case round =>
        obtain ⟨rfl, k, hk, rfl⟩ := hrel
        have hkc : k = 0 ∨ k = 1 := by omega
        rcases hkc with rfl | rfl
        · go_wp2
          go_roundw
          case rel => exact ⟨(by first | trivial | rfl), 1, by omega, rfl⟩
          case measure => simp [intOf]
        · go_wp2
          go_ret
          exact ⟨rint HV.out.symm, rfl⟩
  · have HV := Lib.hid (show orV a b = a from if_neg ha)
    have na : (a != 0) = true := by simp [ha]
    clear ha
    go_enter Try.func39, Try.ntmps39
    go_wp2
    go_loopw [8] (fun i wr => wr = w ∧ i = .int .i64 0) (fun i _ => 0)
    case atStart => exact ⟨rfl, rfl⟩
    case round =>
      obtain ⟨rfl, rfl⟩ := hrel
      go_wp2
      go_ret
      exact ⟨rint HV.out.symm, rfl⟩
set_option maxRecDepth 100000 in
set_option maxHeartbeats 2000000 in
theorem cmpS_any (w : World) (x0 x1 x2 x3 x4 x5 x6 y0 y1 y2 y3 y4 y5 y6 : Int) : Calls Try.prog 28 #[.agg #[.int .i64 x0, .int .i64 x1, .int .i64 x2, .int .i64 x3, .int .i64 x4, .int .i64 x5, .int .i64 x6], .agg #[.int .i64 y0, .int .i64 y1, .int .i64 y2, .int .i64 y3, .int .i64 y4, .int .i64 y5, .int .i64 y6]] w fun e w' => e = .returned (.int .i64 (cmpS ⟨x0, x1, x2, x3, x4, x5, x6⟩ ⟨y0, y1, y2, y3, y4, y5, y6⟩)) ∧ Grown w w' := by
  have HV := Lib.hid (show cmpS ⟨x0, x1, x2, x3, x4, x5, x6⟩ ⟨y0, y1, y2, y3, y4, y5, y6⟩ = orV (cmpV x2 y2) (cmpV x0 y0) from rfl)
  go_enter Try.func28, Try.ntmps28
  go_wp2_with fail
  generalize hX : (w.alloc (.cells #[.int .i64 x0, .int .i64 x1, .int .i64 x2, .int .i64 x3, .int .i64 x4, .int .i64 x5, .int .i64 x6] 41)) = w0
  generalize hY : (w0.alloc (.cells #[.int .i64 y0, .int .i64 y1, .int .i64 y2, .int .i64 y3, .int .i64 y4, .int .i64 y5, .int .i64 y6] 41)) = w1
  have hs0 : w0.heap.size = w.heap.size + 1 := by rw [← hX]; simp
  have hb1 : Grown w w1 := by rw [← hY, ← hX]; exact (grown_alloc _ _).trans (grown_alloc _ _)
  have za : Has w1 w.heap.size 41 #[.int .i64 x0, .int .i64 x1, .int .i64 x2, .int .i64 x3, .int .i64 x4, .int .i64 x5, .int .i64 x6] := by rw [← hY, ← hX]; exact has_alloc (has_new _ _ _) _
  have zb : Has w1 (w.heap.size + 1) 41 #[.int .i64 y0, .int .i64 y1, .int .i64 y2, .int .i64 y3, .int .i64 y4, .int .i64 y5, .int .i64 y6] := by rw [← hY, ← hs0]; exact has_new _ _ _
  clear hX hY hs0
  have p2 := has_cell za 2 rfl; have p0 := has_cell za 0 rfl; have q2 := has_cell zb 2 rfl; have q0 := has_cell zb 0 rfl
  have la := has_lt za; have lb := has_lt zb
  obtain ⟨c1, hc1⟩ : ∃ c, cmpV x2 y2 = c := ⟨_, rfl⟩; obtain ⟨c2, hc2⟩ : ∃ c, cmpV x0 y0 = c := ⟨_, rfl⟩
  have HC1 := Lib.hid hc1; have HC2 := Lib.hid hc2; have HB1 := Lib.hid hb1; clear hc1 hc2 hb1
  clear za zb
  have S0 : (fun W : World => (W.cell? ⟨w.heap.size, 2, none⟩ = some (.int .i64 x2) ∧ W.cell? ⟨w.heap.size, 0, none⟩ = some (.int .i64 x0) ∧ W.cell? ⟨w.heap.size + 1, 2, none⟩ = some (.int .i64 y2) ∧ W.cell? ⟨w.heap.size + 1, 0, none⟩ = some (.int .i64 y0)) ∧ Grown w1 W) w1.drew := ⟨⟨p2, p0, q2, q0⟩, grown_drew _⟩
  clear p2 p0 q2 q0
  refine wp_region_held_drew (S := (fun W : World => (W.cell? ⟨w.heap.size, 2, none⟩ = some (.int .i64 x2) ∧ W.cell? ⟨w.heap.size, 0, none⟩ = some (.int .i64 x0) ∧ W.cell? ⟨w.heap.size + 1, 2, none⟩ = some (.int .i64 y2) ∧ W.cell? ⟨w.heap.size + 1, 0, none⟩ = some (.int .i64 y0)) ∧ Grown w1 W)) (by kernel_rfl) S0 (fun _ => ?_)
  refine any_take (i := 0) (some 5) (.pointer (some ⟨w.heap.size, 2, none⟩)) rfl rfl (by kernel_rfl) (by kernel_rfl) (by kernel_rfl) (fun _ _ _ h => h) rfl (fun W hSw => ?_) (S0) ?_
  · (try dsimp only at hSw); go_simp <;> with_reducible rfl
  try simp only [Act.put, List.setIfInBounds_toArray, List.set_cons_zero, List.set_cons_succ]
  refine any_take (i := 1) (some 6) (.int .i64 x2) rfl rfl (by kernel_rfl) (by kernel_rfl) (by kernel_rfl) (fun _ _ _ h => h) rfl (fun W hSw => ?_) (S0) ?_
  · (try dsimp only at hSw); go_simp <;> with_reducible rfl
  try simp only [Act.put, List.setIfInBounds_toArray, List.set_cons_zero, List.set_cons_succ]
  refine any_take (i := 2) (some 7) (.pointer (some ⟨w.heap.size + 1, 2, none⟩)) rfl rfl (by kernel_rfl) (by kernel_rfl) (by kernel_rfl) (fun _ _ _ h => h) rfl (fun W hSw => ?_) (S0) ?_
  · (try dsimp only at hSw); go_simp <;> with_reducible rfl
  try simp only [Act.put, List.setIfInBounds_toArray, List.set_cons_zero, List.set_cons_succ]
  refine any_take (i := 3) (some 8) (.int .i64 y2) rfl rfl (by kernel_rfl) (by kernel_rfl) (by kernel_rfl) (fun _ _ _ h => h) rfl (fun W hSw => ?_) (S0) ?_
  · (try dsimp only at hSw); go_simp <;> with_reducible rfl
  try simp only [Act.put, List.setIfInBounds_toArray, List.set_cons_zero, List.set_cons_succ]
  refine any_take (i := 5) (some 10) (.pointer (some ⟨w.heap.size, 0, none⟩)) rfl rfl (by kernel_rfl) (by kernel_rfl) (by kernel_rfl) (fun _ _ _ h => h) rfl (fun W hSw => ?_) (S0) ?_
  · (try dsimp only at hSw); go_simp <;> with_reducible rfl
  try simp only [Act.put, List.setIfInBounds_toArray, List.set_cons_zero, List.set_cons_succ]
  refine any_take (i := 6) (some 11) (.int .i64 x0) rfl rfl (by kernel_rfl) (by kernel_rfl) (by kernel_rfl) (fun _ _ _ h => h) rfl (fun W hSw => ?_) (S0) ?_
  · (try dsimp only at hSw); go_simp <;> with_reducible rfl
  try simp only [Act.put, List.setIfInBounds_toArray, List.set_cons_zero, List.set_cons_succ]
  refine any_take (i := 7) (some 12) (.pointer (some ⟨w.heap.size + 1, 0, none⟩)) rfl rfl (by kernel_rfl) (by kernel_rfl) (by kernel_rfl) (fun _ _ _ h => h) rfl (fun W hSw => ?_) (S0) ?_
  · (try dsimp only at hSw); go_simp <;> with_reducible rfl
  try simp only [Act.put, List.setIfInBounds_toArray, List.set_cons_zero, List.set_cons_succ]
  refine any_take (i := 8) (some 13) (.int .i64 y0) rfl rfl (by kernel_rfl) (by kernel_rfl) (by kernel_rfl) (fun _ _ _ h => h) rfl (fun W hSw => ?_) (S0) ?_
  · (try dsimp only at hSw); go_simp <;> with_reducible rfl
  try simp only [Act.put, List.setIfInBounds_toArray, List.set_cons_zero, List.set_cons_succ]
  refine wpAnyH_ready (rs := [4]) (by kernel_rfl) (by simp) ?_
  refine AllReadyH.cons rfl (fun K hK => ?_) AllReadyH.nil
  go_simp
  go_at_call 40
  refine (cmpV_any _ x2 y2).mono ?_
  rintro e wa ⟨rfl, hw8⟩; rw [hw8]; clear hw8 wa
  rw [HC1.out]
  go_wp2_with fail
  refine hK.out _ _ S0 (fun _ => ?_)
  clear hK K
  try simp only [Act.put, List.setIfInBounds_toArray, List.set_cons_zero, List.set_cons_succ]
  refine wpAnyH_ready (rs := [9]) (by kernel_rfl) (by simp) ?_
  refine AllReadyH.cons rfl (fun K hK => ?_) AllReadyH.nil
  go_simp
  go_at_call 40
  refine (cmpV_any _ x0 y0).mono ?_
  rintro e wb ⟨rfl, hw8⟩; rw [hw8]; clear hw8 wb
  rw [HC2.out]
  go_wp2_with fail
  refine hK.out _ _ S0 (fun _ => ?_)
  clear hK K
  try simp only [Act.put, List.setIfInBounds_toArray, List.set_cons_zero, List.set_cons_succ]
  refine wpAnyH_ready (rs := [10]) (by kernel_rfl) (by simp) ?_
  refine AllReadyH.cons rfl (fun K hK => ?_) AllReadyH.nil
  go_simp
  try go_wp2_with fail
  generalize hX9 : (w1.alloc (.cells #[.int .i64 c1, .int .i64 c2] 3)).drew = ws
  have hb8 : Grown w1.drew ws := by rw [← hX9]; exact grown_alloc _ _
  have hbs : Has ws w1.heap.size 3 #[.int .i64 c1, .int .i64 c2] := by rw [← hX9]; exact has_new _ _ _
  clear hX9
  have hb9ws : Grown w1 ws := (S0.2).trans hb8
  have Sws : (fun W : World => (W.cell? ⟨w.heap.size, 2, none⟩ = some (.int .i64 x2) ∧ W.cell? ⟨w.heap.size, 0, none⟩ = some (.int .i64 x0) ∧ W.cell? ⟨w.heap.size + 1, 2, none⟩ = some (.int .i64 y2) ∧ W.cell? ⟨w.heap.size + 1, 0, none⟩ = some (.int .i64 y0)) ∧ Grown w1 W) ws := ⟨⟨(bold hb9ws.below _ _ (la)).trans S0.1.1, (bold hb9ws.below _ _ (la)).trans S0.1.2.1, (bold hb9ws.below _ _ (lb)).trans S0.1.2.2.1, (bold hb9ws.below _ _ (lb)).trans S0.1.2.2.2⟩, hb9ws⟩
  clear hb8
  refine hK.out _ _ Sws (fun _ => ?_)
  clear hK K
  try simp only [Act.put, List.setIfInBounds_toArray, List.set_cons_zero, List.set_cons_succ]
  refine wpAnyH_ready (rs := [11]) (by kernel_rfl) (by simp) ?_
  refine AllReadyH.cons rfl (fun K hK => ?_) AllReadyH.nil
  go_simp
  go_at_call 39
  refine (orV_any _ _ _ c1 c2 hbs).mono ?_
  rintro e wc ⟨rfl, hw8⟩; rw [hw8]; clear hw8 wc
  go_wp2_with fail
  refine hK.out _ _ Sws (fun _ => ?_)
  clear hK K
  try simp only [Act.put, List.setIfInBounds_toArray, List.set_cons_zero, List.set_cons_succ]
  refine any_take (i := 12) (some 4) (.int .i64 (orV c1 c2)) rfl rfl (by kernel_rfl) (by kernel_rfl) (by kernel_rfl) (fun _ _ _ h => h) rfl (fun W hSw => ?_) (Sws) ?_
  · (try dsimp only at hSw); go_simp <;> with_reducible rfl
  try simp only [Act.put, List.setIfInBounds_toArray, List.set_cons_zero, List.set_cons_succ]
  refine wpAnyH_done (by kernel_rfl) ?_ _
  have hbreg : Grown w1 ws := Sws.2
  clear S0 Sws hb9ws
  go_wp2_with fail
  go_ret
  exact ⟨rint (by rw [HV.out, HC1.out, HC2.out]), HB1.out.trans hbreg⟩
end Go.Proofs.Ytnimdbmcpbpoiaa
