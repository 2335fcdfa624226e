/- Chapter 8: contracts of the step of a fate, both sides (gen_evn.py). -/
import Derived.Test.YtnimdbmcpbpoiaaEvQ
namespace Go.Proofs.Ytnimdbmcpbpoiaa
open Go.RowKit
set_option linter.unusedVariables false

theorem before_any (w : World) (k : Int) : Calls Try.prog 41 #[.int .i64 k] w fun e w' => e = .returned (.int .i64 (if k = 1 then 0 else 1)) ∧ w' = w := by
  by_cases hk : k = 1
  · subst hk
    go_enter Try.func41, Try.ntmps41
    go_wp2
    go_ret
    exact ⟨rfl, rfl⟩
  · have h1 : (k == 1) = false := by simp [hk]
    rw [if_neg hk]
    clear hk
    go_enter Try.func41, Try.ntmps41
    go_wp2
    go_ret
    exact ⟨rfl, rfl⟩
set_option maxRecDepth 100000 in
set_option maxHeartbeats 2000000 in
theorem nextS_0 (w : World) (f1 f2 f3 f4 f5 f6 x0 x1 x2 x4 x5 x6 : Int) (hb3 : 0 ≤ f3 ∧ f3 ≤ 1000000) (hb6 : 0 ≤ f6 ∧ f6 ≤ 1000000) : Calls Try.prog 30 #[.agg #[.int .i64 0, .int .i64 f1, .int .i64 f2, .int .i64 f3, .int .i64 f4, .int .i64 f5, .int .i64 f6], .agg #[.int .i64 x0, .int .i64 x1, .int .i64 x2, .int .i64 1, .int .i64 x4, .int .i64 x5, .int .i64 x6]] w fun e w' => e = .returned (.agg #[.int .i64 1, .int .i64 x5, .int .i64 x6, .int .i64 f3, .int .i64 f4, .int .i64 f5, .int .i64 f6]) ∧ Below w.heap.size w w' := by
  clear hb3 hb6
  go_enter Try.func30, Try.ntmps30
  go_wp2_with fail
  refine bodyPost_ret (v := .agg #[.int .i64 1, .int .i64 x5, .int .i64 x6, .int .i64 f3, .int .i64 f4, .int .i64 f5, .int .i64 f6]) (by simp [results, Try.results30, go_sem]) rfl ⟨rfl, ?_⟩
  exact bthen (bthen (balloc _ _) (balloc _ _)) (balloc _ _)
set_option maxRecDepth 100000 in
set_option maxHeartbeats 2000000 in
theorem nextS_1 (w : World) (f0 f1 f2 f3 f4 f5 f6 x0 x1 x2 x4 x5 x6 : Int) (hb3 : 0 ≤ f3 ∧ f3 ≤ 1000000) (hb6 : 0 ≤ f6 ∧ f6 ≤ 1000000) (hs : f0 ≠ 0) : Calls Try.prog 30 #[.agg #[.int .i64 f0, .int .i64 f1, .int .i64 f2, .int .i64 f3, .int .i64 f4, .int .i64 f5, .int .i64 f6], .agg #[.int .i64 x0, .int .i64 x1, .int .i64 x2, .int .i64 1, .int .i64 x4, .int .i64 x5, .int .i64 x6]] w fun e w' => e = .returned (.agg #[.int .i64 f0, .int .i64 f1, .int .i64 f2, .int .i64 f3, .int .i64 f4, .int .i64 f5, .int .i64 (f6 + 1)]) ∧ Below w.heap.size w w' := by
  have wr : IntKind.i64.wrap (f6 + 1) = f6 + 1 := IntWalk.i64_in _ (by omega)
  have t1 : (f0 == 0) = false := by simp [hs]
  have t2 : (f0 != 0) = true := by simp [hs]
  clear hs
  clear hb3 hb6
  go_enter Try.func30, Try.ntmps30
  go_wp2_with fail
  refine bodyPost_ret (v := .agg #[.int .i64 f0, .int .i64 f1, .int .i64 f2, .int .i64 f3, .int .i64 f4, .int .i64 f5, .int .i64 (f6 + 1)]) (by simp [results, Try.results30, go_sem]) rfl ⟨rfl, ?_⟩
  exact bthen (bthen (balloc _ _) (balloc _ _)) (balloc _ _)
set_option maxRecDepth 100000 in
set_option maxHeartbeats 2000000 in
theorem nextS_2 (w : World) (f1 f2 f3 f4 f5 f6 x0 x1 x2 x4 x5 x6 : Int) (hb3 : 0 ≤ f3 ∧ f3 ≤ 1000000) (hb6 : 0 ≤ f6 ∧ f6 ≤ 1000000) : Calls Try.prog 30 #[.agg #[.int .i64 1, .int .i64 f1, .int .i64 f2, .int .i64 f3, .int .i64 f4, .int .i64 f5, .int .i64 f6], .agg #[.int .i64 x0, .int .i64 x1, .int .i64 x2, .int .i64 2, .int .i64 x4, .int .i64 x5, .int .i64 x6]] w fun e w' => e = .returned (.agg #[.int .i64 1, .int .i64 f1, .int .i64 f2, .int .i64 (f3 + 1), .int .i64 f4, .int .i64 f5, .int .i64 f6]) ∧ Below w.heap.size w w' := by
  have wr : IntKind.i64.wrap (f3 + 1) = f3 + 1 := IntWalk.i64_in _ (by omega)
  clear hb3 hb6
  go_enter Try.func30, Try.ntmps30
  go_wp2_with fail
  refine bodyPost_ret (v := .agg #[.int .i64 1, .int .i64 f1, .int .i64 f2, .int .i64 (f3 + 1), .int .i64 f4, .int .i64 f5, .int .i64 f6]) (by simp [results, Try.results30, go_sem]) rfl ⟨rfl, ?_⟩
  exact bthen (bthen (balloc _ _) (balloc _ _)) (balloc _ _)
set_option maxRecDepth 100000 in
set_option maxHeartbeats 2000000 in
theorem nextS_3 (w : World) (f0 f1 f2 f3 f4 f5 f6 x0 x1 x2 x4 x5 x6 : Int) (hb3 : 0 ≤ f3 ∧ f3 ≤ 1000000) (hb6 : 0 ≤ f6 ∧ f6 ≤ 1000000) (hs : f0 ≠ 1) : Calls Try.prog 30 #[.agg #[.int .i64 f0, .int .i64 f1, .int .i64 f2, .int .i64 f3, .int .i64 f4, .int .i64 f5, .int .i64 f6], .agg #[.int .i64 x0, .int .i64 x1, .int .i64 x2, .int .i64 2, .int .i64 x4, .int .i64 x5, .int .i64 x6]] w fun e w' => e = .returned (.agg #[.int .i64 f0, .int .i64 f1, .int .i64 f2, .int .i64 f3, .int .i64 f4, .int .i64 f5, .int .i64 (f6 + 1)]) ∧ Below w.heap.size w w' := by
  have wr : IntKind.i64.wrap (f6 + 1) = f6 + 1 := IntWalk.i64_in _ (by omega)
  have t1 : (f0 == 1) = false := by simp [hs]
  have t2 : (f0 != 1) = true := by simp [hs]
  clear hs
  clear hb3 hb6
  go_enter Try.func30, Try.ntmps30
  go_wp2_with fail
  refine bodyPost_ret (v := .agg #[.int .i64 f0, .int .i64 f1, .int .i64 f2, .int .i64 f3, .int .i64 f4, .int .i64 f5, .int .i64 (f6 + 1)]) (by simp [results, Try.results30, go_sem]) rfl ⟨rfl, ?_⟩
  exact bthen (bthen (balloc _ _) (balloc _ _)) (balloc _ _)
set_option maxRecDepth 100000 in
set_option maxHeartbeats 2000000 in
theorem nextS_4 (w : World) (f1 f2 f3 f4 f5 f6 x0 x1 x2 x4 x5 x6 : Int) (hb3 : 0 ≤ f3 ∧ f3 ≤ 1000000) (hb6 : 0 ≤ f6 ∧ f6 ≤ 1000000) : Calls Try.prog 30 #[.agg #[.int .i64 1, .int .i64 f1, .int .i64 f2, .int .i64 f3, .int .i64 f4, .int .i64 f5, .int .i64 f6], .agg #[.int .i64 x0, .int .i64 x1, .int .i64 x2, .int .i64 3, .int .i64 x4, .int .i64 x5, .int .i64 x6]] w fun e w' => e = .returned (.agg #[.int .i64 2, .int .i64 f1, .int .i64 f2, .int .i64 f3, .int .i64 x5, .int .i64 x6, .int .i64 f6]) ∧ Below w.heap.size w w' := by
  clear hb3 hb6
  go_enter Try.func30, Try.ntmps30
  go_wp2_with fail
  refine bodyPost_ret (v := .agg #[.int .i64 2, .int .i64 f1, .int .i64 f2, .int .i64 f3, .int .i64 x5, .int .i64 x6, .int .i64 f6]) (by simp [results, Try.results30, go_sem]) rfl ⟨rfl, ?_⟩
  exact bthen (bthen (balloc _ _) (balloc _ _)) (balloc _ _)
set_option maxRecDepth 100000 in
set_option maxHeartbeats 2000000 in
theorem nextS_5 (w : World) (f0 f1 f2 f3 f4 f5 f6 x0 x1 x2 x4 x5 x6 : Int) (hb3 : 0 ≤ f3 ∧ f3 ≤ 1000000) (hb6 : 0 ≤ f6 ∧ f6 ≤ 1000000) (hs : f0 ≠ 1) : Calls Try.prog 30 #[.agg #[.int .i64 f0, .int .i64 f1, .int .i64 f2, .int .i64 f3, .int .i64 f4, .int .i64 f5, .int .i64 f6], .agg #[.int .i64 x0, .int .i64 x1, .int .i64 x2, .int .i64 3, .int .i64 x4, .int .i64 x5, .int .i64 x6]] w fun e w' => e = .returned (.agg #[.int .i64 f0, .int .i64 f1, .int .i64 f2, .int .i64 f3, .int .i64 f4, .int .i64 f5, .int .i64 (f6 + 1)]) ∧ Below w.heap.size w w' := by
  have wr : IntKind.i64.wrap (f6 + 1) = f6 + 1 := IntWalk.i64_in _ (by omega)
  have t1 : (f0 == 1) = false := by simp [hs]
  have t2 : (f0 != 1) = true := by simp [hs]
  clear hs
  clear hb3 hb6
  go_enter Try.func30, Try.ntmps30
  go_wp2_with fail
  refine bodyPost_ret (v := .agg #[.int .i64 f0, .int .i64 f1, .int .i64 f2, .int .i64 f3, .int .i64 f4, .int .i64 f5, .int .i64 (f6 + 1)]) (by simp [results, Try.results30, go_sem]) rfl ⟨rfl, ?_⟩
  exact bthen (bthen (balloc _ _) (balloc _ _)) (balloc _ _)
set_option maxRecDepth 100000 in
set_option maxHeartbeats 2000000 in
theorem nextS_6 (w : World) (f1 f2 f3 f4 f5 f6 x0 x1 x2 x4 x5 x6 : Int) (hb3 : 0 ≤ f3 ∧ f3 ≤ 1000000) (hb6 : 0 ≤ f6 ∧ f6 ≤ 1000000) : Calls Try.prog 30 #[.agg #[.int .i64 1, .int .i64 f1, .int .i64 f2, .int .i64 f3, .int .i64 f4, .int .i64 f5, .int .i64 f6], .agg #[.int .i64 x0, .int .i64 x1, .int .i64 x2, .int .i64 4, .int .i64 x4, .int .i64 x5, .int .i64 x6]] w fun e w' => e = .returned (.agg #[.int .i64 3, .int .i64 f1, .int .i64 f2, .int .i64 f3, .int .i64 f4, .int .i64 x6, .int .i64 f6]) ∧ Below w.heap.size w w' := by
  clear hb3 hb6
  go_enter Try.func30, Try.ntmps30
  go_wp2_with fail
  refine bodyPost_ret (v := .agg #[.int .i64 3, .int .i64 f1, .int .i64 f2, .int .i64 f3, .int .i64 f4, .int .i64 x6, .int .i64 f6]) (by simp [results, Try.results30, go_sem]) rfl ⟨rfl, ?_⟩
  exact bthen (bthen (balloc _ _) (balloc _ _)) (balloc _ _)
set_option maxRecDepth 100000 in
set_option maxHeartbeats 2000000 in
theorem nextS_7 (w : World) (f0 f1 f2 f3 f4 f5 f6 x0 x1 x2 x4 x5 x6 : Int) (hb3 : 0 ≤ f3 ∧ f3 ≤ 1000000) (hb6 : 0 ≤ f6 ∧ f6 ≤ 1000000) (hs : f0 ≠ 1) : Calls Try.prog 30 #[.agg #[.int .i64 f0, .int .i64 f1, .int .i64 f2, .int .i64 f3, .int .i64 f4, .int .i64 f5, .int .i64 f6], .agg #[.int .i64 x0, .int .i64 x1, .int .i64 x2, .int .i64 4, .int .i64 x4, .int .i64 x5, .int .i64 x6]] w fun e w' => e = .returned (.agg #[.int .i64 f0, .int .i64 f1, .int .i64 f2, .int .i64 f3, .int .i64 f4, .int .i64 f5, .int .i64 (f6 + 1)]) ∧ Below w.heap.size w w' := by
  have wr : IntKind.i64.wrap (f6 + 1) = f6 + 1 := IntWalk.i64_in _ (by omega)
  have t1 : (f0 == 1) = false := by simp [hs]
  have t2 : (f0 != 1) = true := by simp [hs]
  clear hs
  clear hb3 hb6
  go_enter Try.func30, Try.ntmps30
  go_wp2_with fail
  refine bodyPost_ret (v := .agg #[.int .i64 f0, .int .i64 f1, .int .i64 f2, .int .i64 f3, .int .i64 f4, .int .i64 f5, .int .i64 (f6 + 1)]) (by simp [results, Try.results30, go_sem]) rfl ⟨rfl, ?_⟩
  exact bthen (bthen (balloc _ _) (balloc _ _)) (balloc _ _)
theorem nextS_any (w : World) (f : Ft) (e : Ev) (hk : 1 ≤ e.knd ∧ e.knd ≤ 4) (hb3 : 0 ≤ f.ext ∧ f.ext ≤ 1000000) (hb6 : 0 ≤ f.cls ∧ f.cls ≤ 1000000) : Calls Try.prog 30 #[.agg f.A, .agg e.A] w fun e1 w' => e1 = .returned (.agg (nextE f e).A) ∧ Below w.heap.size w w' := by
  obtain ⟨f0, f1, f2, f3, f4, f5, f6⟩ := f; obtain ⟨x0, x1, x2, x3, x4, x5, x6⟩ := e; dsimp only at hk hb3 hb6
  have hkc : x3 = 1 ∨ x3 = 2 ∨ x3 = 3 ∨ x3 = 4 := by omega
  rcases hkc with rfl | rfl | rfl | rfl
  · by_cases hs : f0 = 0
    · subst hs; exact nextS_0 w f1 f2 f3 f4 f5 f6 x0 x1 x2 x4 x5 x6 hb3 hb6
    · have := nextS_1 w f0 f1 f2 f3 f4 f5 f6 x0 x1 x2 x4 x5 x6 hb3 hb6 hs; simpa [nextE, hs, Ft.A, Ev.A] using this
  · by_cases hs : f0 = 1
    · subst hs; exact nextS_2 w f1 f2 f3 f4 f5 f6 x0 x1 x2 x4 x5 x6 hb3 hb6
    · have := nextS_3 w f0 f1 f2 f3 f4 f5 f6 x0 x1 x2 x4 x5 x6 hb3 hb6 hs; simpa [nextE, hs, Ft.A, Ev.A] using this
  · by_cases hs : f0 = 1
    · subst hs; exact nextS_4 w f1 f2 f3 f4 f5 f6 x0 x1 x2 x4 x5 x6 hb3 hb6
    · have := nextS_5 w f0 f1 f2 f3 f4 f5 f6 x0 x1 x2 x4 x5 x6 hb3 hb6 hs; simpa [nextE, hs, Ft.A, Ev.A] using this
  · by_cases hs : f0 = 1
    · subst hs; exact nextS_6 w f1 f2 f3 f4 f5 f6 x0 x1 x2 x4 x5 x6 hb3 hb6
    · have := nextS_7 w f0 f1 f2 f3 f4 f5 f6 x0 x1 x2 x4 x5 x6 hb3 hb6 hs; simpa [nextE, hs, Ft.A, Ev.A] using this
set_option maxRecDepth 100000 in
set_option maxHeartbeats 2000000 in
theorem nextI_0 (w : World) (f1 f2 f3 f4 f5 f6 x0 x1 x2 x4 x5 x6 : Int) (hb3 : 0 ≤ f3 ∧ f3 ≤ 1000000) (hb6 : 0 ≤ f6 ∧ f6 ≤ 1000000) : Calls Try.prog 31 #[.agg #[.int .i64 0, .int .i64 f1, .int .i64 f2, .int .i64 f3, .int .i64 f4, .int .i64 f5, .int .i64 f6], .agg #[.int .i64 x0, .int .i64 x1, .int .i64 x2, .int .i64 1, .int .i64 x4, .int .i64 x5, .int .i64 x6]] w fun e w' => e = .returned (.agg #[.int .i64 1, .int .i64 x5, .int .i64 x6, .int .i64 f3, .int .i64 f4, .int .i64 f5, .int .i64 f6]) ∧ Below w.heap.size w w' := by
  clear hb3 hb6
  go_enter Try.func31, Try.ntmps31
  go_wp2_with fail
  generalize hX : (w.alloc (.cells #[.int .i64 0, .int .i64 f1, .int .i64 f2, .int .i64 f3, .int .i64 f4, .int .i64 f5, .int .i64 f6] 34)) = w1
  have hb : Below w.heap.size w w1 := by rw [← hX]; exact balloc _ _
  have hk : Has w1 w.heap.size 34 #[.int .i64 0, .int .i64 f1, .int .i64 f2, .int .i64 f3, .int .i64 f4, .int .i64 f5, .int .i64 f6] := by rw [← hX]; exact has_new _ _ _
  have hzw1 : w1.heap.size = w.heap.size + 1 := by rw [← hX]; simp
  clear hX
  have zb := hb; clear hb
  have za := hk; clear hk
  generalize hX : (w1.alloc (.cells #[.int .i64 x0, .int .i64 x1, .int .i64 x2, .int .i64 1, .int .i64 x4, .int .i64 x5, .int .i64 x6] 41)) = w2
  have hb : Below w1.heap.size w1 w2 := by rw [← hX]; exact balloc _ _
  have hk : Has w2 w1.heap.size 41 #[.int .i64 x0, .int .i64 x1, .int .i64 x2, .int .i64 1, .int .i64 x4, .int .i64 x5, .int .i64 x6] := by rw [← hX]; exact has_new _ _ _
  have hzw2 : w2.heap.size = w.heap.size + 2 := by rw [← hX]; simp [hzw1]
  clear hX
  rw [hzw1] at hk
  replace za := has_call za hb
  replace zb := bthen zb hb; clear hb
  have zb1 := hk; clear hk
  generalize hX : (w2.alloc (.cells #[.int .i64 0, .int .i64 0, .int .i64 0, .int .i64 0, .int .i64 0, .int .i64 0, .int .i64 0] 34)) = w3
  have hb : Below w2.heap.size w2 w3 := by rw [← hX]; exact balloc _ _
  have hk : Has w3 w2.heap.size 34 #[.int .i64 0, .int .i64 0, .int .i64 0, .int .i64 0, .int .i64 0, .int .i64 0, .int .i64 0] := by rw [← hX]; exact has_new _ _ _
  have hzw3 : w3.heap.size = w.heap.size + 3 := by rw [← hX]; simp [hzw2]
  clear hX
  rw [hzw2] at hk
  replace za := has_call za hb
  replace zb1 := has_call zb1 hb
  replace zb := bthen zb hb; clear hb
  have zr := hk; clear hk
  clear hzw1 hzw2 hzw3
  have Q1 := Lib.hid (show ∀ W, Calls Try.prog 41 #[.int .i64 1] W fun e w' => e = .returned (.int .i64 0) ∧ w' = W from fun W => before_any W 1)
  have zac0 := has_cell za 0 rfl; have zac1 := has_cell za 1 rfl; have zac2 := has_cell za 2 rfl; have zac3 := has_cell za 3 rfl; have zac4 := has_cell za 4 rfl; have zac5 := has_cell za 5 rfl; have zac6 := has_cell za 6 rfl
  have zalt := has_lt za
  have zb1c0 := has_cell zb1 0 rfl; have zb1c1 := has_cell zb1 1 rfl; have zb1c2 := has_cell zb1 2 rfl; have zb1c3 := has_cell zb1 3 rfl; have zb1c4 := has_cell zb1 4 rfl; have zb1c5 := has_cell zb1 5 rfl; have zb1c6 := has_cell zb1 6 rfl
  have zb1lt := has_lt zb1
  have zrc0 := has_cell zr 0 rfl; have zrc1 := has_cell zr 1 rfl; have zrc2 := has_cell zr 2 rfl; have zrc3 := has_cell zr 3 rfl; have zrc4 := has_cell zr 4 rfl; have zrc5 := has_cell zr 5 rfl; have zrc6 := has_cell zr 6 rfl
  have zrlt := has_lt zr
  have ZAH := Lib.hid za; clear za
  have ZB1H := Lib.hid zb1; clear zb1
  have ZRH := Lib.hid zr; clear zr
  have ZB := Lib.hid zb; clear zb
  go_quiet (first | (go_at_call 41; exact Calls.quiet_of_same (Q1.out _)))
  rename Nat => nq0
  clear zac0 zac1 zac2 zac3 zac4 zac5 zac6 zalt zb1c0 zb1c1 zb1c2 zb1c3 zb1c4 zb1c5 zb1c6 zb1lt zrc0 zrc1 zrc2 zrc3 zrc4 zrc5 zrc6 zrlt
  have za := ZAH.out; clear ZAH
  have zb1 := ZB1H.out; clear ZB1H
  have zr := ZRH.out; clear ZRH
  have zb := ZB.out; clear ZB
  generalize hX : w3.drewN nq0 = wq
  replace za := has_drewN za nq0; rw [hX] at za
  replace zb1 := has_drewN zb1 nq0; rw [hX] at zb1
  replace zr := has_drewN zr nq0; rw [hX] at zr
  replace zb := below_drewN zb nq0; rw [hX] at zb
  clear hX
  have zac0 := has_cell za 0 rfl; have zac1 := has_cell za 1 rfl; have zac2 := has_cell za 2 rfl; have zac3 := has_cell za 3 rfl; have zac4 := has_cell za 4 rfl; have zac5 := has_cell za 5 rfl; have zac6 := has_cell za 6 rfl
  have zaf0 := has_free za 0; have zaf1 := has_free za 1; have zaf2 := has_free za 2; have zaf3 := has_free za 3; have zaf4 := has_free za 4; have zaf5 := has_free za 5; have zaf6 := has_free za 6
  have zalt := has_lt za
  have zb1c0 := has_cell zb1 0 rfl; have zb1c1 := has_cell zb1 1 rfl; have zb1c2 := has_cell zb1 2 rfl; have zb1c3 := has_cell zb1 3 rfl; have zb1c4 := has_cell zb1 4 rfl; have zb1c5 := has_cell zb1 5 rfl; have zb1c6 := has_cell zb1 6 rfl
  have zb1lt := has_lt zb1
  have zrc0 := has_cell zr 0 rfl; have zrc1 := has_cell zr 1 rfl; have zrc2 := has_cell zr 2 rfl; have zrc3 := has_cell zr 3 rfl; have zrc4 := has_cell zr 4 rfl; have zrc5 := has_cell zr 5 rfl; have zrc6 := has_cell zr 6 rfl
  have zrf0 := has_free zr 0; have zrf1 := has_free zr 1; have zrf2 := has_free zr 2; have zrf3 := has_free zr 3; have zrf4 := has_free zr 4; have zrf5 := has_free zr 5; have zrf6 := has_free zr 6
  have zrlt := has_lt zr
  have ZAH := Lib.hid za; clear za
  have ZB1H := Lib.hid zb1; clear zb1
  have ZRH := Lib.hid zr; clear zr
  have ZB := Lib.hid zb; clear zb
  go_wp2_with fail
  go_region
  go_wp2_with fail
  refine bodyPost_ret (v := .agg #[.int .i64 1, .int .i64 x5, .int .i64 x6, .int .i64 f3, .int .i64 f4, .int .i64 f5, .int .i64 f6]) (by simp [results, Try.results31, go_sem, zac0, zac1, zac2, zac3, zac4, zac5, zac6, zaf0, zaf1, zaf2, zaf3, zaf4, zaf5, zaf6, zalt, zb1c0, zb1c1, zb1c2, zb1c3, zb1c4, zb1c5, zb1c6, zb1lt, zrc0, zrc1, zrc2, zrc3, zrc4, zrc5, zrc6, zrf0, zrf1, zrf2, zrf3, zrf4, zrf5, zrf6, zrlt]) rfl ⟨rfl, ?_⟩
  repeat (first | (with_reducible exact ZB.out) | (with_reducible refine Below.drew ?_) | (with_reducible refine Below.setCell ?_ (by first | exact Nat.le_refl _ | exact Nat.le_succ _ | exact Nat.le_add_right _ 2) _))
set_option maxRecDepth 100000 in
set_option maxHeartbeats 2000000 in
theorem nextI_1 (w : World) (f0 f1 f2 f3 f4 f5 f6 x0 x1 x2 x4 x5 x6 : Int) (hb3 : 0 ≤ f3 ∧ f3 ≤ 1000000) (hb6 : 0 ≤ f6 ∧ f6 ≤ 1000000) (hs : f0 ≠ 0) : Calls Try.prog 31 #[.agg #[.int .i64 f0, .int .i64 f1, .int .i64 f2, .int .i64 f3, .int .i64 f4, .int .i64 f5, .int .i64 f6], .agg #[.int .i64 x0, .int .i64 x1, .int .i64 x2, .int .i64 1, .int .i64 x4, .int .i64 x5, .int .i64 x6]] w fun e w' => e = .returned (.agg #[.int .i64 f0, .int .i64 f1, .int .i64 f2, .int .i64 f3, .int .i64 f4, .int .i64 f5, .int .i64 (f6 + 1)]) ∧ Below w.heap.size w w' := by
  have wr : IntKind.i64.wrap (f6 + 1) = f6 + 1 := IntWalk.i64_in _ (by omega)
  have t1 : (f0 == 0) = false := by simp [hs]
  have t2 : (f0 != 0) = true := by simp [hs]
  clear hs
  clear hb3 hb6
  go_enter Try.func31, Try.ntmps31
  go_wp2_with fail
  generalize hX : (w.alloc (.cells #[.int .i64 f0, .int .i64 f1, .int .i64 f2, .int .i64 f3, .int .i64 f4, .int .i64 f5, .int .i64 f6] 34)) = w1
  have hb : Below w.heap.size w w1 := by rw [← hX]; exact balloc _ _
  have hk : Has w1 w.heap.size 34 #[.int .i64 f0, .int .i64 f1, .int .i64 f2, .int .i64 f3, .int .i64 f4, .int .i64 f5, .int .i64 f6] := by rw [← hX]; exact has_new _ _ _
  have hzw1 : w1.heap.size = w.heap.size + 1 := by rw [← hX]; simp
  clear hX
  have zb := hb; clear hb
  have za := hk; clear hk
  generalize hX : (w1.alloc (.cells #[.int .i64 x0, .int .i64 x1, .int .i64 x2, .int .i64 1, .int .i64 x4, .int .i64 x5, .int .i64 x6] 41)) = w2
  have hb : Below w1.heap.size w1 w2 := by rw [← hX]; exact balloc _ _
  have hk : Has w2 w1.heap.size 41 #[.int .i64 x0, .int .i64 x1, .int .i64 x2, .int .i64 1, .int .i64 x4, .int .i64 x5, .int .i64 x6] := by rw [← hX]; exact has_new _ _ _
  have hzw2 : w2.heap.size = w.heap.size + 2 := by rw [← hX]; simp [hzw1]
  clear hX
  rw [hzw1] at hk
  replace za := has_call za hb
  replace zb := bthen zb hb; clear hb
  have zb1 := hk; clear hk
  generalize hX : (w2.alloc (.cells #[.int .i64 0, .int .i64 0, .int .i64 0, .int .i64 0, .int .i64 0, .int .i64 0, .int .i64 0] 34)) = w3
  have hb : Below w2.heap.size w2 w3 := by rw [← hX]; exact balloc _ _
  have hk : Has w3 w2.heap.size 34 #[.int .i64 0, .int .i64 0, .int .i64 0, .int .i64 0, .int .i64 0, .int .i64 0, .int .i64 0] := by rw [← hX]; exact has_new _ _ _
  have hzw3 : w3.heap.size = w.heap.size + 3 := by rw [← hX]; simp [hzw2]
  clear hX
  rw [hzw2] at hk
  replace za := has_call za hb
  replace zb1 := has_call zb1 hb
  replace zb := bthen zb hb; clear hb
  have zr := hk; clear hk
  clear hzw1 hzw2 hzw3
  have Q1 := Lib.hid (show ∀ W, Calls Try.prog 41 #[.int .i64 1] W fun e w' => e = .returned (.int .i64 0) ∧ w' = W from fun W => before_any W 1)
  have zac0 := has_cell za 0 rfl; have zac1 := has_cell za 1 rfl; have zac2 := has_cell za 2 rfl; have zac3 := has_cell za 3 rfl; have zac4 := has_cell za 4 rfl; have zac5 := has_cell za 5 rfl; have zac6 := has_cell za 6 rfl
  have zalt := has_lt za
  have zb1c0 := has_cell zb1 0 rfl; have zb1c1 := has_cell zb1 1 rfl; have zb1c2 := has_cell zb1 2 rfl; have zb1c3 := has_cell zb1 3 rfl; have zb1c4 := has_cell zb1 4 rfl; have zb1c5 := has_cell zb1 5 rfl; have zb1c6 := has_cell zb1 6 rfl
  have zb1lt := has_lt zb1
  have zrc0 := has_cell zr 0 rfl; have zrc1 := has_cell zr 1 rfl; have zrc2 := has_cell zr 2 rfl; have zrc3 := has_cell zr 3 rfl; have zrc4 := has_cell zr 4 rfl; have zrc5 := has_cell zr 5 rfl; have zrc6 := has_cell zr 6 rfl
  have zrlt := has_lt zr
  have ZAH := Lib.hid za; clear za
  have ZB1H := Lib.hid zb1; clear zb1
  have ZRH := Lib.hid zr; clear zr
  have ZB := Lib.hid zb; clear zb
  go_quiet (first | (go_at_call 41; exact Calls.quiet_of_same (Q1.out _)))
  rename Nat => nq0
  clear zac0 zac1 zac2 zac3 zac4 zac5 zac6 zalt zb1c0 zb1c1 zb1c2 zb1c3 zb1c4 zb1c5 zb1c6 zb1lt zrc0 zrc1 zrc2 zrc3 zrc4 zrc5 zrc6 zrlt
  have za := ZAH.out; clear ZAH
  have zb1 := ZB1H.out; clear ZB1H
  have zr := ZRH.out; clear ZRH
  have zb := ZB.out; clear ZB
  generalize hX : w3.drewN nq0 = wq
  replace za := has_drewN za nq0; rw [hX] at za
  replace zb1 := has_drewN zb1 nq0; rw [hX] at zb1
  replace zr := has_drewN zr nq0; rw [hX] at zr
  replace zb := below_drewN zb nq0; rw [hX] at zb
  clear hX
  have zac0 := has_cell za 0 rfl; have zac1 := has_cell za 1 rfl; have zac2 := has_cell za 2 rfl; have zac3 := has_cell za 3 rfl; have zac4 := has_cell za 4 rfl; have zac5 := has_cell za 5 rfl; have zac6 := has_cell za 6 rfl
  have zaf0 := has_free za 0; have zaf1 := has_free za 1; have zaf2 := has_free za 2; have zaf3 := has_free za 3; have zaf4 := has_free za 4; have zaf5 := has_free za 5; have zaf6 := has_free za 6
  have zalt := has_lt za
  have zb1c0 := has_cell zb1 0 rfl; have zb1c1 := has_cell zb1 1 rfl; have zb1c2 := has_cell zb1 2 rfl; have zb1c3 := has_cell zb1 3 rfl; have zb1c4 := has_cell zb1 4 rfl; have zb1c5 := has_cell zb1 5 rfl; have zb1c6 := has_cell zb1 6 rfl
  have zb1lt := has_lt zb1
  have zrc0 := has_cell zr 0 rfl; have zrc1 := has_cell zr 1 rfl; have zrc2 := has_cell zr 2 rfl; have zrc3 := has_cell zr 3 rfl; have zrc4 := has_cell zr 4 rfl; have zrc5 := has_cell zr 5 rfl; have zrc6 := has_cell zr 6 rfl
  have zrf0 := has_free zr 0; have zrf1 := has_free zr 1; have zrf2 := has_free zr 2; have zrf3 := has_free zr 3; have zrf4 := has_free zr 4; have zrf5 := has_free zr 5; have zrf6 := has_free zr 6
  have zrlt := has_lt zr
  have ZAH := Lib.hid za; clear za
  have ZB1H := Lib.hid zb1; clear zb1
  have ZRH := Lib.hid zr; clear zr
  have ZB := Lib.hid zb; clear zb
  go_wp2_with fail
  refine bodyPost_ret (v := .agg #[.int .i64 f0, .int .i64 f1, .int .i64 f2, .int .i64 f3, .int .i64 f4, .int .i64 f5, .int .i64 (f6 + 1)]) (by simp [results, Try.results31, go_sem, zac0, zac1, zac2, zac3, zac4, zac5, zac6, zaf0, zaf1, zaf2, zaf3, zaf4, zaf5, zaf6, zalt, zb1c0, zb1c1, zb1c2, zb1c3, zb1c4, zb1c5, zb1c6, zb1lt, zrc0, zrc1, zrc2, zrc3, zrc4, zrc5, zrc6, zrf0, zrf1, zrf2, zrf3, zrf4, zrf5, zrf6, zrlt]) rfl ⟨rfl, ?_⟩
  repeat (first | (with_reducible exact ZB.out) | (with_reducible refine Below.drew ?_) | (with_reducible refine Below.setCell ?_ (by first | exact Nat.le_refl _ | exact Nat.le_succ _ | exact Nat.le_add_right _ 2) _))
set_option maxRecDepth 100000 in
set_option maxHeartbeats 2000000 in
theorem nextI_2 (w : World) (f1 f2 f3 f4 f5 f6 x0 x1 x2 x4 x5 x6 : Int) (hb3 : 0 ≤ f3 ∧ f3 ≤ 1000000) (hb6 : 0 ≤ f6 ∧ f6 ≤ 1000000) : Calls Try.prog 31 #[.agg #[.int .i64 1, .int .i64 f1, .int .i64 f2, .int .i64 f3, .int .i64 f4, .int .i64 f5, .int .i64 f6], .agg #[.int .i64 x0, .int .i64 x1, .int .i64 x2, .int .i64 2, .int .i64 x4, .int .i64 x5, .int .i64 x6]] w fun e w' => e = .returned (.agg #[.int .i64 1, .int .i64 f1, .int .i64 f2, .int .i64 (f3 + 1), .int .i64 f4, .int .i64 f5, .int .i64 f6]) ∧ Below w.heap.size w w' := by
  have wr : IntKind.i64.wrap (f3 + 1) = f3 + 1 := IntWalk.i64_in _ (by omega)
  clear hb3 hb6
  go_enter Try.func31, Try.ntmps31
  go_wp2_with fail
  generalize hX : (w.alloc (.cells #[.int .i64 1, .int .i64 f1, .int .i64 f2, .int .i64 f3, .int .i64 f4, .int .i64 f5, .int .i64 f6] 34)) = w1
  have hb : Below w.heap.size w w1 := by rw [← hX]; exact balloc _ _
  have hk : Has w1 w.heap.size 34 #[.int .i64 1, .int .i64 f1, .int .i64 f2, .int .i64 f3, .int .i64 f4, .int .i64 f5, .int .i64 f6] := by rw [← hX]; exact has_new _ _ _
  have hzw1 : w1.heap.size = w.heap.size + 1 := by rw [← hX]; simp
  clear hX
  have zb := hb; clear hb
  have za := hk; clear hk
  generalize hX : (w1.alloc (.cells #[.int .i64 x0, .int .i64 x1, .int .i64 x2, .int .i64 2, .int .i64 x4, .int .i64 x5, .int .i64 x6] 41)) = w2
  have hb : Below w1.heap.size w1 w2 := by rw [← hX]; exact balloc _ _
  have hk : Has w2 w1.heap.size 41 #[.int .i64 x0, .int .i64 x1, .int .i64 x2, .int .i64 2, .int .i64 x4, .int .i64 x5, .int .i64 x6] := by rw [← hX]; exact has_new _ _ _
  have hzw2 : w2.heap.size = w.heap.size + 2 := by rw [← hX]; simp [hzw1]
  clear hX
  rw [hzw1] at hk
  replace za := has_call za hb
  replace zb := bthen zb hb; clear hb
  have zb1 := hk; clear hk
  generalize hX : (w2.alloc (.cells #[.int .i64 0, .int .i64 0, .int .i64 0, .int .i64 0, .int .i64 0, .int .i64 0, .int .i64 0] 34)) = w3
  have hb : Below w2.heap.size w2 w3 := by rw [← hX]; exact balloc _ _
  have hk : Has w3 w2.heap.size 34 #[.int .i64 0, .int .i64 0, .int .i64 0, .int .i64 0, .int .i64 0, .int .i64 0, .int .i64 0] := by rw [← hX]; exact has_new _ _ _
  have hzw3 : w3.heap.size = w.heap.size + 3 := by rw [← hX]; simp [hzw2]
  clear hX
  rw [hzw2] at hk
  replace za := has_call za hb
  replace zb1 := has_call zb1 hb
  replace zb := bthen zb hb; clear hb
  have zr := hk; clear hk
  clear hzw1 hzw2 hzw3
  have Q1 := Lib.hid (show ∀ W, Calls Try.prog 41 #[.int .i64 2] W fun e w' => e = .returned (.int .i64 1) ∧ w' = W from fun W => before_any W 2)
  have zac0 := has_cell za 0 rfl; have zac1 := has_cell za 1 rfl; have zac2 := has_cell za 2 rfl; have zac3 := has_cell za 3 rfl; have zac4 := has_cell za 4 rfl; have zac5 := has_cell za 5 rfl; have zac6 := has_cell za 6 rfl
  have zalt := has_lt za
  have zb1c0 := has_cell zb1 0 rfl; have zb1c1 := has_cell zb1 1 rfl; have zb1c2 := has_cell zb1 2 rfl; have zb1c3 := has_cell zb1 3 rfl; have zb1c4 := has_cell zb1 4 rfl; have zb1c5 := has_cell zb1 5 rfl; have zb1c6 := has_cell zb1 6 rfl
  have zb1lt := has_lt zb1
  have zrc0 := has_cell zr 0 rfl; have zrc1 := has_cell zr 1 rfl; have zrc2 := has_cell zr 2 rfl; have zrc3 := has_cell zr 3 rfl; have zrc4 := has_cell zr 4 rfl; have zrc5 := has_cell zr 5 rfl; have zrc6 := has_cell zr 6 rfl
  have zrlt := has_lt zr
  have ZAH := Lib.hid za; clear za
  have ZB1H := Lib.hid zb1; clear zb1
  have ZRH := Lib.hid zr; clear zr
  have ZB := Lib.hid zb; clear zb
  go_quiet (first | (go_at_call 41; exact Calls.quiet_of_same (Q1.out _)))
  rename Nat => nq0
  clear zac0 zac1 zac2 zac3 zac4 zac5 zac6 zalt zb1c0 zb1c1 zb1c2 zb1c3 zb1c4 zb1c5 zb1c6 zb1lt zrc0 zrc1 zrc2 zrc3 zrc4 zrc5 zrc6 zrlt
  have za := ZAH.out; clear ZAH
  have zb1 := ZB1H.out; clear ZB1H
  have zr := ZRH.out; clear ZRH
  have zb := ZB.out; clear ZB
  generalize hX : w3.drewN nq0 = wq
  replace za := has_drewN za nq0; rw [hX] at za
  replace zb1 := has_drewN zb1 nq0; rw [hX] at zb1
  replace zr := has_drewN zr nq0; rw [hX] at zr
  replace zb := below_drewN zb nq0; rw [hX] at zb
  clear hX
  have zac0 := has_cell za 0 rfl; have zac1 := has_cell za 1 rfl; have zac2 := has_cell za 2 rfl; have zac3 := has_cell za 3 rfl; have zac4 := has_cell za 4 rfl; have zac5 := has_cell za 5 rfl; have zac6 := has_cell za 6 rfl
  have zaf0 := has_free za 0; have zaf1 := has_free za 1; have zaf2 := has_free za 2; have zaf3 := has_free za 3; have zaf4 := has_free za 4; have zaf5 := has_free za 5; have zaf6 := has_free za 6
  have zalt := has_lt za
  have zb1c0 := has_cell zb1 0 rfl; have zb1c1 := has_cell zb1 1 rfl; have zb1c2 := has_cell zb1 2 rfl; have zb1c3 := has_cell zb1 3 rfl; have zb1c4 := has_cell zb1 4 rfl; have zb1c5 := has_cell zb1 5 rfl; have zb1c6 := has_cell zb1 6 rfl
  have zb1lt := has_lt zb1
  have zrc0 := has_cell zr 0 rfl; have zrc1 := has_cell zr 1 rfl; have zrc2 := has_cell zr 2 rfl; have zrc3 := has_cell zr 3 rfl; have zrc4 := has_cell zr 4 rfl; have zrc5 := has_cell zr 5 rfl; have zrc6 := has_cell zr 6 rfl
  have zrf0 := has_free zr 0; have zrf1 := has_free zr 1; have zrf2 := has_free zr 2; have zrf3 := has_free zr 3; have zrf4 := has_free zr 4; have zrf5 := has_free zr 5; have zrf6 := has_free zr 6
  have zrlt := has_lt zr
  have ZAH := Lib.hid za; clear za
  have ZB1H := Lib.hid zb1; clear zb1
  have ZRH := Lib.hid zr; clear zr
  have ZB := Lib.hid zb; clear zb
  go_wp2_with fail
  refine bodyPost_ret (v := .agg #[.int .i64 1, .int .i64 f1, .int .i64 f2, .int .i64 (f3 + 1), .int .i64 f4, .int .i64 f5, .int .i64 f6]) (by simp [results, Try.results31, go_sem, zac0, zac1, zac2, zac3, zac4, zac5, zac6, zaf0, zaf1, zaf2, zaf3, zaf4, zaf5, zaf6, zalt, zb1c0, zb1c1, zb1c2, zb1c3, zb1c4, zb1c5, zb1c6, zb1lt, zrc0, zrc1, zrc2, zrc3, zrc4, zrc5, zrc6, zrf0, zrf1, zrf2, zrf3, zrf4, zrf5, zrf6, zrlt]) rfl ⟨rfl, ?_⟩
  repeat (first | (with_reducible exact ZB.out) | (with_reducible refine Below.drew ?_) | (with_reducible refine Below.setCell ?_ (by first | exact Nat.le_refl _ | exact Nat.le_succ _ | exact Nat.le_add_right _ 2) _))
set_option maxRecDepth 100000 in
set_option maxHeartbeats 2000000 in
theorem nextI_3 (w : World) (f0 f1 f2 f3 f4 f5 f6 x0 x1 x2 x4 x5 x6 : Int) (hb3 : 0 ≤ f3 ∧ f3 ≤ 1000000) (hb6 : 0 ≤ f6 ∧ f6 ≤ 1000000) (hs : f0 ≠ 1) : Calls Try.prog 31 #[.agg #[.int .i64 f0, .int .i64 f1, .int .i64 f2, .int .i64 f3, .int .i64 f4, .int .i64 f5, .int .i64 f6], .agg #[.int .i64 x0, .int .i64 x1, .int .i64 x2, .int .i64 2, .int .i64 x4, .int .i64 x5, .int .i64 x6]] w fun e w' => e = .returned (.agg #[.int .i64 f0, .int .i64 f1, .int .i64 f2, .int .i64 f3, .int .i64 f4, .int .i64 f5, .int .i64 (f6 + 1)]) ∧ Below w.heap.size w w' := by
  have wr : IntKind.i64.wrap (f6 + 1) = f6 + 1 := IntWalk.i64_in _ (by omega)
  have t1 : (f0 == 1) = false := by simp [hs]
  have t2 : (f0 != 1) = true := by simp [hs]
  clear hs
  clear hb3 hb6
  go_enter Try.func31, Try.ntmps31
  go_wp2_with fail
  generalize hX : (w.alloc (.cells #[.int .i64 f0, .int .i64 f1, .int .i64 f2, .int .i64 f3, .int .i64 f4, .int .i64 f5, .int .i64 f6] 34)) = w1
  have hb : Below w.heap.size w w1 := by rw [← hX]; exact balloc _ _
  have hk : Has w1 w.heap.size 34 #[.int .i64 f0, .int .i64 f1, .int .i64 f2, .int .i64 f3, .int .i64 f4, .int .i64 f5, .int .i64 f6] := by rw [← hX]; exact has_new _ _ _
  have hzw1 : w1.heap.size = w.heap.size + 1 := by rw [← hX]; simp
  clear hX
  have zb := hb; clear hb
  have za := hk; clear hk
  generalize hX : (w1.alloc (.cells #[.int .i64 x0, .int .i64 x1, .int .i64 x2, .int .i64 2, .int .i64 x4, .int .i64 x5, .int .i64 x6] 41)) = w2
  have hb : Below w1.heap.size w1 w2 := by rw [← hX]; exact balloc _ _
  have hk : Has w2 w1.heap.size 41 #[.int .i64 x0, .int .i64 x1, .int .i64 x2, .int .i64 2, .int .i64 x4, .int .i64 x5, .int .i64 x6] := by rw [← hX]; exact has_new _ _ _
  have hzw2 : w2.heap.size = w.heap.size + 2 := by rw [← hX]; simp [hzw1]
  clear hX
  rw [hzw1] at hk
  replace za := has_call za hb
  replace zb := bthen zb hb; clear hb
  have zb1 := hk; clear hk
  generalize hX : (w2.alloc (.cells #[.int .i64 0, .int .i64 0, .int .i64 0, .int .i64 0, .int .i64 0, .int .i64 0, .int .i64 0] 34)) = w3
  have hb : Below w2.heap.size w2 w3 := by rw [← hX]; exact balloc _ _
  have hk : Has w3 w2.heap.size 34 #[.int .i64 0, .int .i64 0, .int .i64 0, .int .i64 0, .int .i64 0, .int .i64 0, .int .i64 0] := by rw [← hX]; exact has_new _ _ _
  have hzw3 : w3.heap.size = w.heap.size + 3 := by rw [← hX]; simp [hzw2]
  clear hX
  rw [hzw2] at hk
  replace za := has_call za hb
  replace zb1 := has_call zb1 hb
  replace zb := bthen zb hb; clear hb
  have zr := hk; clear hk
  clear hzw1 hzw2 hzw3
  have Q1 := Lib.hid (show ∀ W, Calls Try.prog 41 #[.int .i64 2] W fun e w' => e = .returned (.int .i64 1) ∧ w' = W from fun W => before_any W 2)
  have zac0 := has_cell za 0 rfl; have zac1 := has_cell za 1 rfl; have zac2 := has_cell za 2 rfl; have zac3 := has_cell za 3 rfl; have zac4 := has_cell za 4 rfl; have zac5 := has_cell za 5 rfl; have zac6 := has_cell za 6 rfl
  have zalt := has_lt za
  have zb1c0 := has_cell zb1 0 rfl; have zb1c1 := has_cell zb1 1 rfl; have zb1c2 := has_cell zb1 2 rfl; have zb1c3 := has_cell zb1 3 rfl; have zb1c4 := has_cell zb1 4 rfl; have zb1c5 := has_cell zb1 5 rfl; have zb1c6 := has_cell zb1 6 rfl
  have zb1lt := has_lt zb1
  have zrc0 := has_cell zr 0 rfl; have zrc1 := has_cell zr 1 rfl; have zrc2 := has_cell zr 2 rfl; have zrc3 := has_cell zr 3 rfl; have zrc4 := has_cell zr 4 rfl; have zrc5 := has_cell zr 5 rfl; have zrc6 := has_cell zr 6 rfl
  have zrlt := has_lt zr
  have ZAH := Lib.hid za; clear za
  have ZB1H := Lib.hid zb1; clear zb1
  have ZRH := Lib.hid zr; clear zr
  have ZB := Lib.hid zb; clear zb
  go_quiet (first | (go_at_call 41; exact Calls.quiet_of_same (Q1.out _)))
  rename Nat => nq0
  clear zac0 zac1 zac2 zac3 zac4 zac5 zac6 zalt zb1c0 zb1c1 zb1c2 zb1c3 zb1c4 zb1c5 zb1c6 zb1lt zrc0 zrc1 zrc2 zrc3 zrc4 zrc5 zrc6 zrlt
  have za := ZAH.out; clear ZAH
  have zb1 := ZB1H.out; clear ZB1H
  have zr := ZRH.out; clear ZRH
  have zb := ZB.out; clear ZB
  generalize hX : w3.drewN nq0 = wq
  replace za := has_drewN za nq0; rw [hX] at za
  replace zb1 := has_drewN zb1 nq0; rw [hX] at zb1
  replace zr := has_drewN zr nq0; rw [hX] at zr
  replace zb := below_drewN zb nq0; rw [hX] at zb
  clear hX
  have zac0 := has_cell za 0 rfl; have zac1 := has_cell za 1 rfl; have zac2 := has_cell za 2 rfl; have zac3 := has_cell za 3 rfl; have zac4 := has_cell za 4 rfl; have zac5 := has_cell za 5 rfl; have zac6 := has_cell za 6 rfl
  have zaf0 := has_free za 0; have zaf1 := has_free za 1; have zaf2 := has_free za 2; have zaf3 := has_free za 3; have zaf4 := has_free za 4; have zaf5 := has_free za 5; have zaf6 := has_free za 6
  have zalt := has_lt za
  have zb1c0 := has_cell zb1 0 rfl; have zb1c1 := has_cell zb1 1 rfl; have zb1c2 := has_cell zb1 2 rfl; have zb1c3 := has_cell zb1 3 rfl; have zb1c4 := has_cell zb1 4 rfl; have zb1c5 := has_cell zb1 5 rfl; have zb1c6 := has_cell zb1 6 rfl
  have zb1lt := has_lt zb1
  have zrc0 := has_cell zr 0 rfl; have zrc1 := has_cell zr 1 rfl; have zrc2 := has_cell zr 2 rfl; have zrc3 := has_cell zr 3 rfl; have zrc4 := has_cell zr 4 rfl; have zrc5 := has_cell zr 5 rfl; have zrc6 := has_cell zr 6 rfl
  have zrf0 := has_free zr 0; have zrf1 := has_free zr 1; have zrf2 := has_free zr 2; have zrf3 := has_free zr 3; have zrf4 := has_free zr 4; have zrf5 := has_free zr 5; have zrf6 := has_free zr 6
  have zrlt := has_lt zr
  have ZAH := Lib.hid za; clear za
  have ZB1H := Lib.hid zb1; clear zb1
  have ZRH := Lib.hid zr; clear zr
  have ZB := Lib.hid zb; clear zb
  go_wp2_with fail
  refine bodyPost_ret (v := .agg #[.int .i64 f0, .int .i64 f1, .int .i64 f2, .int .i64 f3, .int .i64 f4, .int .i64 f5, .int .i64 (f6 + 1)]) (by simp [results, Try.results31, go_sem, zac0, zac1, zac2, zac3, zac4, zac5, zac6, zaf0, zaf1, zaf2, zaf3, zaf4, zaf5, zaf6, zalt, zb1c0, zb1c1, zb1c2, zb1c3, zb1c4, zb1c5, zb1c6, zb1lt, zrc0, zrc1, zrc2, zrc3, zrc4, zrc5, zrc6, zrf0, zrf1, zrf2, zrf3, zrf4, zrf5, zrf6, zrlt]) rfl ⟨rfl, ?_⟩
  repeat (first | (with_reducible exact ZB.out) | (with_reducible refine Below.drew ?_) | (with_reducible refine Below.setCell ?_ (by first | exact Nat.le_refl _ | exact Nat.le_succ _ | exact Nat.le_add_right _ 2) _))
set_option maxRecDepth 100000 in
set_option maxHeartbeats 2000000 in
theorem nextI_4 (w : World) (f1 f2 f3 f4 f5 f6 x0 x1 x2 x4 x5 x6 : Int) (hb3 : 0 ≤ f3 ∧ f3 ≤ 1000000) (hb6 : 0 ≤ f6 ∧ f6 ≤ 1000000) : Calls Try.prog 31 #[.agg #[.int .i64 1, .int .i64 f1, .int .i64 f2, .int .i64 f3, .int .i64 f4, .int .i64 f5, .int .i64 f6], .agg #[.int .i64 x0, .int .i64 x1, .int .i64 x2, .int .i64 3, .int .i64 x4, .int .i64 x5, .int .i64 x6]] w fun e w' => e = .returned (.agg #[.int .i64 2, .int .i64 f1, .int .i64 f2, .int .i64 f3, .int .i64 x5, .int .i64 x6, .int .i64 f6]) ∧ Below w.heap.size w w' := by
  clear hb3 hb6
  go_enter Try.func31, Try.ntmps31
  go_wp2_with fail
  generalize hX : (w.alloc (.cells #[.int .i64 1, .int .i64 f1, .int .i64 f2, .int .i64 f3, .int .i64 f4, .int .i64 f5, .int .i64 f6] 34)) = w1
  have hb : Below w.heap.size w w1 := by rw [← hX]; exact balloc _ _
  have hk : Has w1 w.heap.size 34 #[.int .i64 1, .int .i64 f1, .int .i64 f2, .int .i64 f3, .int .i64 f4, .int .i64 f5, .int .i64 f6] := by rw [← hX]; exact has_new _ _ _
  have hzw1 : w1.heap.size = w.heap.size + 1 := by rw [← hX]; simp
  clear hX
  have zb := hb; clear hb
  have za := hk; clear hk
  generalize hX : (w1.alloc (.cells #[.int .i64 x0, .int .i64 x1, .int .i64 x2, .int .i64 3, .int .i64 x4, .int .i64 x5, .int .i64 x6] 41)) = w2
  have hb : Below w1.heap.size w1 w2 := by rw [← hX]; exact balloc _ _
  have hk : Has w2 w1.heap.size 41 #[.int .i64 x0, .int .i64 x1, .int .i64 x2, .int .i64 3, .int .i64 x4, .int .i64 x5, .int .i64 x6] := by rw [← hX]; exact has_new _ _ _
  have hzw2 : w2.heap.size = w.heap.size + 2 := by rw [← hX]; simp [hzw1]
  clear hX
  rw [hzw1] at hk
  replace za := has_call za hb
  replace zb := bthen zb hb; clear hb
  have zb1 := hk; clear hk
  generalize hX : (w2.alloc (.cells #[.int .i64 0, .int .i64 0, .int .i64 0, .int .i64 0, .int .i64 0, .int .i64 0, .int .i64 0] 34)) = w3
  have hb : Below w2.heap.size w2 w3 := by rw [← hX]; exact balloc _ _
  have hk : Has w3 w2.heap.size 34 #[.int .i64 0, .int .i64 0, .int .i64 0, .int .i64 0, .int .i64 0, .int .i64 0, .int .i64 0] := by rw [← hX]; exact has_new _ _ _
  have hzw3 : w3.heap.size = w.heap.size + 3 := by rw [← hX]; simp [hzw2]
  clear hX
  rw [hzw2] at hk
  replace za := has_call za hb
  replace zb1 := has_call zb1 hb
  replace zb := bthen zb hb; clear hb
  have zr := hk; clear hk
  clear hzw1 hzw2 hzw3
  have Q1 := Lib.hid (show ∀ W, Calls Try.prog 41 #[.int .i64 3] W fun e w' => e = .returned (.int .i64 1) ∧ w' = W from fun W => before_any W 3)
  have zac0 := has_cell za 0 rfl; have zac1 := has_cell za 1 rfl; have zac2 := has_cell za 2 rfl; have zac3 := has_cell za 3 rfl; have zac4 := has_cell za 4 rfl; have zac5 := has_cell za 5 rfl; have zac6 := has_cell za 6 rfl
  have zalt := has_lt za
  have zb1c0 := has_cell zb1 0 rfl; have zb1c1 := has_cell zb1 1 rfl; have zb1c2 := has_cell zb1 2 rfl; have zb1c3 := has_cell zb1 3 rfl; have zb1c4 := has_cell zb1 4 rfl; have zb1c5 := has_cell zb1 5 rfl; have zb1c6 := has_cell zb1 6 rfl
  have zb1lt := has_lt zb1
  have zrc0 := has_cell zr 0 rfl; have zrc1 := has_cell zr 1 rfl; have zrc2 := has_cell zr 2 rfl; have zrc3 := has_cell zr 3 rfl; have zrc4 := has_cell zr 4 rfl; have zrc5 := has_cell zr 5 rfl; have zrc6 := has_cell zr 6 rfl
  have zrlt := has_lt zr
  have ZAH := Lib.hid za; clear za
  have ZB1H := Lib.hid zb1; clear zb1
  have ZRH := Lib.hid zr; clear zr
  have ZB := Lib.hid zb; clear zb
  go_quiet (first | (go_at_call 41; exact Calls.quiet_of_same (Q1.out _)))
  rename Nat => nq0
  clear zac0 zac1 zac2 zac3 zac4 zac5 zac6 zalt zb1c0 zb1c1 zb1c2 zb1c3 zb1c4 zb1c5 zb1c6 zb1lt zrc0 zrc1 zrc2 zrc3 zrc4 zrc5 zrc6 zrlt
  have za := ZAH.out; clear ZAH
  have zb1 := ZB1H.out; clear ZB1H
  have zr := ZRH.out; clear ZRH
  have zb := ZB.out; clear ZB
  generalize hX : w3.drewN nq0 = wq
  replace za := has_drewN za nq0; rw [hX] at za
  replace zb1 := has_drewN zb1 nq0; rw [hX] at zb1
  replace zr := has_drewN zr nq0; rw [hX] at zr
  replace zb := below_drewN zb nq0; rw [hX] at zb
  clear hX
  have zac0 := has_cell za 0 rfl; have zac1 := has_cell za 1 rfl; have zac2 := has_cell za 2 rfl; have zac3 := has_cell za 3 rfl; have zac4 := has_cell za 4 rfl; have zac5 := has_cell za 5 rfl; have zac6 := has_cell za 6 rfl
  have zaf0 := has_free za 0; have zaf1 := has_free za 1; have zaf2 := has_free za 2; have zaf3 := has_free za 3; have zaf4 := has_free za 4; have zaf5 := has_free za 5; have zaf6 := has_free za 6
  have zalt := has_lt za
  have zb1c0 := has_cell zb1 0 rfl; have zb1c1 := has_cell zb1 1 rfl; have zb1c2 := has_cell zb1 2 rfl; have zb1c3 := has_cell zb1 3 rfl; have zb1c4 := has_cell zb1 4 rfl; have zb1c5 := has_cell zb1 5 rfl; have zb1c6 := has_cell zb1 6 rfl
  have zb1lt := has_lt zb1
  have zrc0 := has_cell zr 0 rfl; have zrc1 := has_cell zr 1 rfl; have zrc2 := has_cell zr 2 rfl; have zrc3 := has_cell zr 3 rfl; have zrc4 := has_cell zr 4 rfl; have zrc5 := has_cell zr 5 rfl; have zrc6 := has_cell zr 6 rfl
  have zrf0 := has_free zr 0; have zrf1 := has_free zr 1; have zrf2 := has_free zr 2; have zrf3 := has_free zr 3; have zrf4 := has_free zr 4; have zrf5 := has_free zr 5; have zrf6 := has_free zr 6
  have zrlt := has_lt zr
  have ZAH := Lib.hid za; clear za
  have ZB1H := Lib.hid zb1; clear zb1
  have ZRH := Lib.hid zr; clear zr
  have ZB := Lib.hid zb; clear zb
  go_wp2_with fail
  go_region
  go_wp2_with fail
  refine bodyPost_ret (v := .agg #[.int .i64 2, .int .i64 f1, .int .i64 f2, .int .i64 f3, .int .i64 x5, .int .i64 x6, .int .i64 f6]) (by simp [results, Try.results31, go_sem, zac0, zac1, zac2, zac3, zac4, zac5, zac6, zaf0, zaf1, zaf2, zaf3, zaf4, zaf5, zaf6, zalt, zb1c0, zb1c1, zb1c2, zb1c3, zb1c4, zb1c5, zb1c6, zb1lt, zrc0, zrc1, zrc2, zrc3, zrc4, zrc5, zrc6, zrf0, zrf1, zrf2, zrf3, zrf4, zrf5, zrf6, zrlt]) rfl ⟨rfl, ?_⟩
  repeat (first | (with_reducible exact ZB.out) | (with_reducible refine Below.drew ?_) | (with_reducible refine Below.setCell ?_ (by first | exact Nat.le_refl _ | exact Nat.le_succ _ | exact Nat.le_add_right _ 2) _))
set_option maxRecDepth 100000 in
set_option maxHeartbeats 2000000 in
theorem nextI_5 (w : World) (f0 f1 f2 f3 f4 f5 f6 x0 x1 x2 x4 x5 x6 : Int) (hb3 : 0 ≤ f3 ∧ f3 ≤ 1000000) (hb6 : 0 ≤ f6 ∧ f6 ≤ 1000000) (hs : f0 ≠ 1) : Calls Try.prog 31 #[.agg #[.int .i64 f0, .int .i64 f1, .int .i64 f2, .int .i64 f3, .int .i64 f4, .int .i64 f5, .int .i64 f6], .agg #[.int .i64 x0, .int .i64 x1, .int .i64 x2, .int .i64 3, .int .i64 x4, .int .i64 x5, .int .i64 x6]] w fun e w' => e = .returned (.agg #[.int .i64 f0, .int .i64 f1, .int .i64 f2, .int .i64 f3, .int .i64 f4, .int .i64 f5, .int .i64 (f6 + 1)]) ∧ Below w.heap.size w w' := by
  have wr : IntKind.i64.wrap (f6 + 1) = f6 + 1 := IntWalk.i64_in _ (by omega)
  have t1 : (f0 == 1) = false := by simp [hs]
  have t2 : (f0 != 1) = true := by simp [hs]
  clear hs
  clear hb3 hb6
  go_enter Try.func31, Try.ntmps31
  go_wp2_with fail
  generalize hX : (w.alloc (.cells #[.int .i64 f0, .int .i64 f1, .int .i64 f2, .int .i64 f3, .int .i64 f4, .int .i64 f5, .int .i64 f6] 34)) = w1
  have hb : Below w.heap.size w w1 := by rw [← hX]; exact balloc _ _
  have hk : Has w1 w.heap.size 34 #[.int .i64 f0, .int .i64 f1, .int .i64 f2, .int .i64 f3, .int .i64 f4, .int .i64 f5, .int .i64 f6] := by rw [← hX]; exact has_new _ _ _
  have hzw1 : w1.heap.size = w.heap.size + 1 := by rw [← hX]; simp
  clear hX
  have zb := hb; clear hb
  have za := hk; clear hk
  generalize hX : (w1.alloc (.cells #[.int .i64 x0, .int .i64 x1, .int .i64 x2, .int .i64 3, .int .i64 x4, .int .i64 x5, .int .i64 x6] 41)) = w2
  have hb : Below w1.heap.size w1 w2 := by rw [← hX]; exact balloc _ _
  have hk : Has w2 w1.heap.size 41 #[.int .i64 x0, .int .i64 x1, .int .i64 x2, .int .i64 3, .int .i64 x4, .int .i64 x5, .int .i64 x6] := by rw [← hX]; exact has_new _ _ _
  have hzw2 : w2.heap.size = w.heap.size + 2 := by rw [← hX]; simp [hzw1]
  clear hX
  rw [hzw1] at hk
  replace za := has_call za hb
  replace zb := bthen zb hb; clear hb
  have zb1 := hk; clear hk
  generalize hX : (w2.alloc (.cells #[.int .i64 0, .int .i64 0, .int .i64 0, .int .i64 0, .int .i64 0, .int .i64 0, .int .i64 0] 34)) = w3
  have hb : Below w2.heap.size w2 w3 := by rw [← hX]; exact balloc _ _
  have hk : Has w3 w2.heap.size 34 #[.int .i64 0, .int .i64 0, .int .i64 0, .int .i64 0, .int .i64 0, .int .i64 0, .int .i64 0] := by rw [← hX]; exact has_new _ _ _
  have hzw3 : w3.heap.size = w.heap.size + 3 := by rw [← hX]; simp [hzw2]
  clear hX
  rw [hzw2] at hk
  replace za := has_call za hb
  replace zb1 := has_call zb1 hb
  replace zb := bthen zb hb; clear hb
  have zr := hk; clear hk
  clear hzw1 hzw2 hzw3
  have Q1 := Lib.hid (show ∀ W, Calls Try.prog 41 #[.int .i64 3] W fun e w' => e = .returned (.int .i64 1) ∧ w' = W from fun W => before_any W 3)
  have zac0 := has_cell za 0 rfl; have zac1 := has_cell za 1 rfl; have zac2 := has_cell za 2 rfl; have zac3 := has_cell za 3 rfl; have zac4 := has_cell za 4 rfl; have zac5 := has_cell za 5 rfl; have zac6 := has_cell za 6 rfl
  have zalt := has_lt za
  have zb1c0 := has_cell zb1 0 rfl; have zb1c1 := has_cell zb1 1 rfl; have zb1c2 := has_cell zb1 2 rfl; have zb1c3 := has_cell zb1 3 rfl; have zb1c4 := has_cell zb1 4 rfl; have zb1c5 := has_cell zb1 5 rfl; have zb1c6 := has_cell zb1 6 rfl
  have zb1lt := has_lt zb1
  have zrc0 := has_cell zr 0 rfl; have zrc1 := has_cell zr 1 rfl; have zrc2 := has_cell zr 2 rfl; have zrc3 := has_cell zr 3 rfl; have zrc4 := has_cell zr 4 rfl; have zrc5 := has_cell zr 5 rfl; have zrc6 := has_cell zr 6 rfl
  have zrlt := has_lt zr
  have ZAH := Lib.hid za; clear za
  have ZB1H := Lib.hid zb1; clear zb1
  have ZRH := Lib.hid zr; clear zr
  have ZB := Lib.hid zb; clear zb
  go_quiet (first | (go_at_call 41; exact Calls.quiet_of_same (Q1.out _)))
  rename Nat => nq0
  clear zac0 zac1 zac2 zac3 zac4 zac5 zac6 zalt zb1c0 zb1c1 zb1c2 zb1c3 zb1c4 zb1c5 zb1c6 zb1lt zrc0 zrc1 zrc2 zrc3 zrc4 zrc5 zrc6 zrlt
  have za := ZAH.out; clear ZAH
  have zb1 := ZB1H.out; clear ZB1H
  have zr := ZRH.out; clear ZRH
  have zb := ZB.out; clear ZB
  generalize hX : w3.drewN nq0 = wq
  replace za := has_drewN za nq0; rw [hX] at za
  replace zb1 := has_drewN zb1 nq0; rw [hX] at zb1
  replace zr := has_drewN zr nq0; rw [hX] at zr
  replace zb := below_drewN zb nq0; rw [hX] at zb
  clear hX
  have zac0 := has_cell za 0 rfl; have zac1 := has_cell za 1 rfl; have zac2 := has_cell za 2 rfl; have zac3 := has_cell za 3 rfl; have zac4 := has_cell za 4 rfl; have zac5 := has_cell za 5 rfl; have zac6 := has_cell za 6 rfl
  have zaf0 := has_free za 0; have zaf1 := has_free za 1; have zaf2 := has_free za 2; have zaf3 := has_free za 3; have zaf4 := has_free za 4; have zaf5 := has_free za 5; have zaf6 := has_free za 6
  have zalt := has_lt za
  have zb1c0 := has_cell zb1 0 rfl; have zb1c1 := has_cell zb1 1 rfl; have zb1c2 := has_cell zb1 2 rfl; have zb1c3 := has_cell zb1 3 rfl; have zb1c4 := has_cell zb1 4 rfl; have zb1c5 := has_cell zb1 5 rfl; have zb1c6 := has_cell zb1 6 rfl
  have zb1lt := has_lt zb1
  have zrc0 := has_cell zr 0 rfl; have zrc1 := has_cell zr 1 rfl; have zrc2 := has_cell zr 2 rfl; have zrc3 := has_cell zr 3 rfl; have zrc4 := has_cell zr 4 rfl; have zrc5 := has_cell zr 5 rfl; have zrc6 := has_cell zr 6 rfl
  have zrf0 := has_free zr 0; have zrf1 := has_free zr 1; have zrf2 := has_free zr 2; have zrf3 := has_free zr 3; have zrf4 := has_free zr 4; have zrf5 := has_free zr 5; have zrf6 := has_free zr 6
  have zrlt := has_lt zr
  have ZAH := Lib.hid za; clear za
  have ZB1H := Lib.hid zb1; clear zb1
  have ZRH := Lib.hid zr; clear zr
  have ZB := Lib.hid zb; clear zb
  go_wp2_with fail
  refine bodyPost_ret (v := .agg #[.int .i64 f0, .int .i64 f1, .int .i64 f2, .int .i64 f3, .int .i64 f4, .int .i64 f5, .int .i64 (f6 + 1)]) (by simp [results, Try.results31, go_sem, zac0, zac1, zac2, zac3, zac4, zac5, zac6, zaf0, zaf1, zaf2, zaf3, zaf4, zaf5, zaf6, zalt, zb1c0, zb1c1, zb1c2, zb1c3, zb1c4, zb1c5, zb1c6, zb1lt, zrc0, zrc1, zrc2, zrc3, zrc4, zrc5, zrc6, zrf0, zrf1, zrf2, zrf3, zrf4, zrf5, zrf6, zrlt]) rfl ⟨rfl, ?_⟩
  repeat (first | (with_reducible exact ZB.out) | (with_reducible refine Below.drew ?_) | (with_reducible refine Below.setCell ?_ (by first | exact Nat.le_refl _ | exact Nat.le_succ _ | exact Nat.le_add_right _ 2) _))
set_option maxRecDepth 100000 in
set_option maxHeartbeats 2000000 in
theorem nextI_6 (w : World) (f1 f2 f3 f4 f5 f6 x0 x1 x2 x4 x5 x6 : Int) (hb3 : 0 ≤ f3 ∧ f3 ≤ 1000000) (hb6 : 0 ≤ f6 ∧ f6 ≤ 1000000) : Calls Try.prog 31 #[.agg #[.int .i64 1, .int .i64 f1, .int .i64 f2, .int .i64 f3, .int .i64 f4, .int .i64 f5, .int .i64 f6], .agg #[.int .i64 x0, .int .i64 x1, .int .i64 x2, .int .i64 4, .int .i64 x4, .int .i64 x5, .int .i64 x6]] w fun e w' => e = .returned (.agg #[.int .i64 3, .int .i64 f1, .int .i64 f2, .int .i64 f3, .int .i64 f4, .int .i64 x6, .int .i64 f6]) ∧ Below w.heap.size w w' := by
  clear hb3 hb6
  go_enter Try.func31, Try.ntmps31
  go_wp2_with fail
  generalize hX : (w.alloc (.cells #[.int .i64 1, .int .i64 f1, .int .i64 f2, .int .i64 f3, .int .i64 f4, .int .i64 f5, .int .i64 f6] 34)) = w1
  have hb : Below w.heap.size w w1 := by rw [← hX]; exact balloc _ _
  have hk : Has w1 w.heap.size 34 #[.int .i64 1, .int .i64 f1, .int .i64 f2, .int .i64 f3, .int .i64 f4, .int .i64 f5, .int .i64 f6] := by rw [← hX]; exact has_new _ _ _
  have hzw1 : w1.heap.size = w.heap.size + 1 := by rw [← hX]; simp
  clear hX
  have zb := hb; clear hb
  have za := hk; clear hk
  generalize hX : (w1.alloc (.cells #[.int .i64 x0, .int .i64 x1, .int .i64 x2, .int .i64 4, .int .i64 x4, .int .i64 x5, .int .i64 x6] 41)) = w2
  have hb : Below w1.heap.size w1 w2 := by rw [← hX]; exact balloc _ _
  have hk : Has w2 w1.heap.size 41 #[.int .i64 x0, .int .i64 x1, .int .i64 x2, .int .i64 4, .int .i64 x4, .int .i64 x5, .int .i64 x6] := by rw [← hX]; exact has_new _ _ _
  have hzw2 : w2.heap.size = w.heap.size + 2 := by rw [← hX]; simp [hzw1]
  clear hX
  rw [hzw1] at hk
  replace za := has_call za hb
  replace zb := bthen zb hb; clear hb
  have zb1 := hk; clear hk
  generalize hX : (w2.alloc (.cells #[.int .i64 0, .int .i64 0, .int .i64 0, .int .i64 0, .int .i64 0, .int .i64 0, .int .i64 0] 34)) = w3
  have hb : Below w2.heap.size w2 w3 := by rw [← hX]; exact balloc _ _
  have hk : Has w3 w2.heap.size 34 #[.int .i64 0, .int .i64 0, .int .i64 0, .int .i64 0, .int .i64 0, .int .i64 0, .int .i64 0] := by rw [← hX]; exact has_new _ _ _
  have hzw3 : w3.heap.size = w.heap.size + 3 := by rw [← hX]; simp [hzw2]
  clear hX
  rw [hzw2] at hk
  replace za := has_call za hb
  replace zb1 := has_call zb1 hb
  replace zb := bthen zb hb; clear hb
  have zr := hk; clear hk
  clear hzw1 hzw2 hzw3
  have Q1 := Lib.hid (show ∀ W, Calls Try.prog 41 #[.int .i64 4] W fun e w' => e = .returned (.int .i64 1) ∧ w' = W from fun W => before_any W 4)
  have zac0 := has_cell za 0 rfl; have zac1 := has_cell za 1 rfl; have zac2 := has_cell za 2 rfl; have zac3 := has_cell za 3 rfl; have zac4 := has_cell za 4 rfl; have zac5 := has_cell za 5 rfl; have zac6 := has_cell za 6 rfl
  have zalt := has_lt za
  have zb1c0 := has_cell zb1 0 rfl; have zb1c1 := has_cell zb1 1 rfl; have zb1c2 := has_cell zb1 2 rfl; have zb1c3 := has_cell zb1 3 rfl; have zb1c4 := has_cell zb1 4 rfl; have zb1c5 := has_cell zb1 5 rfl; have zb1c6 := has_cell zb1 6 rfl
  have zb1lt := has_lt zb1
  have zrc0 := has_cell zr 0 rfl; have zrc1 := has_cell zr 1 rfl; have zrc2 := has_cell zr 2 rfl; have zrc3 := has_cell zr 3 rfl; have zrc4 := has_cell zr 4 rfl; have zrc5 := has_cell zr 5 rfl; have zrc6 := has_cell zr 6 rfl
  have zrlt := has_lt zr
  have ZAH := Lib.hid za; clear za
  have ZB1H := Lib.hid zb1; clear zb1
  have ZRH := Lib.hid zr; clear zr
  have ZB := Lib.hid zb; clear zb
  go_quiet (first | (go_at_call 41; exact Calls.quiet_of_same (Q1.out _)))
  rename Nat => nq0
  clear zac0 zac1 zac2 zac3 zac4 zac5 zac6 zalt zb1c0 zb1c1 zb1c2 zb1c3 zb1c4 zb1c5 zb1c6 zb1lt zrc0 zrc1 zrc2 zrc3 zrc4 zrc5 zrc6 zrlt
  have za := ZAH.out; clear ZAH
  have zb1 := ZB1H.out; clear ZB1H
  have zr := ZRH.out; clear ZRH
  have zb := ZB.out; clear ZB
  generalize hX : w3.drewN nq0 = wq
  replace za := has_drewN za nq0; rw [hX] at za
  replace zb1 := has_drewN zb1 nq0; rw [hX] at zb1
  replace zr := has_drewN zr nq0; rw [hX] at zr
  replace zb := below_drewN zb nq0; rw [hX] at zb
  clear hX
  have zac0 := has_cell za 0 rfl; have zac1 := has_cell za 1 rfl; have zac2 := has_cell za 2 rfl; have zac3 := has_cell za 3 rfl; have zac4 := has_cell za 4 rfl; have zac5 := has_cell za 5 rfl; have zac6 := has_cell za 6 rfl
  have zaf0 := has_free za 0; have zaf1 := has_free za 1; have zaf2 := has_free za 2; have zaf3 := has_free za 3; have zaf4 := has_free za 4; have zaf5 := has_free za 5; have zaf6 := has_free za 6
  have zalt := has_lt za
  have zb1c0 := has_cell zb1 0 rfl; have zb1c1 := has_cell zb1 1 rfl; have zb1c2 := has_cell zb1 2 rfl; have zb1c3 := has_cell zb1 3 rfl; have zb1c4 := has_cell zb1 4 rfl; have zb1c5 := has_cell zb1 5 rfl; have zb1c6 := has_cell zb1 6 rfl
  have zb1lt := has_lt zb1
  have zrc0 := has_cell zr 0 rfl; have zrc1 := has_cell zr 1 rfl; have zrc2 := has_cell zr 2 rfl; have zrc3 := has_cell zr 3 rfl; have zrc4 := has_cell zr 4 rfl; have zrc5 := has_cell zr 5 rfl; have zrc6 := has_cell zr 6 rfl
  have zrf0 := has_free zr 0; have zrf1 := has_free zr 1; have zrf2 := has_free zr 2; have zrf3 := has_free zr 3; have zrf4 := has_free zr 4; have zrf5 := has_free zr 5; have zrf6 := has_free zr 6
  have zrlt := has_lt zr
  have ZAH := Lib.hid za; clear za
  have ZB1H := Lib.hid zb1; clear zb1
  have ZRH := Lib.hid zr; clear zr
  have ZB := Lib.hid zb; clear zb
  go_wp2_with fail
  go_region
  go_wp2_with fail
  refine bodyPost_ret (v := .agg #[.int .i64 3, .int .i64 f1, .int .i64 f2, .int .i64 f3, .int .i64 f4, .int .i64 x6, .int .i64 f6]) (by simp [results, Try.results31, go_sem, zac0, zac1, zac2, zac3, zac4, zac5, zac6, zaf0, zaf1, zaf2, zaf3, zaf4, zaf5, zaf6, zalt, zb1c0, zb1c1, zb1c2, zb1c3, zb1c4, zb1c5, zb1c6, zb1lt, zrc0, zrc1, zrc2, zrc3, zrc4, zrc5, zrc6, zrf0, zrf1, zrf2, zrf3, zrf4, zrf5, zrf6, zrlt]) rfl ⟨rfl, ?_⟩
  repeat (first | (with_reducible exact ZB.out) | (with_reducible refine Below.drew ?_) | (with_reducible refine Below.setCell ?_ (by first | exact Nat.le_refl _ | exact Nat.le_succ _ | exact Nat.le_add_right _ 2) _))
set_option maxRecDepth 100000 in
set_option maxHeartbeats 2000000 in
theorem nextI_7 (w : World) (f0 f1 f2 f3 f4 f5 f6 x0 x1 x2 x4 x5 x6 : Int) (hb3 : 0 ≤ f3 ∧ f3 ≤ 1000000) (hb6 : 0 ≤ f6 ∧ f6 ≤ 1000000) (hs : f0 ≠ 1) : Calls Try.prog 31 #[.agg #[.int .i64 f0, .int .i64 f1, .int .i64 f2, .int .i64 f3, .int .i64 f4, .int .i64 f5, .int .i64 f6], .agg #[.int .i64 x0, .int .i64 x1, .int .i64 x2, .int .i64 4, .int .i64 x4, .int .i64 x5, .int .i64 x6]] w fun e w' => e = .returned (.agg #[.int .i64 f0, .int .i64 f1, .int .i64 f2, .int .i64 f3, .int .i64 f4, .int .i64 f5, .int .i64 (f6 + 1)]) ∧ Below w.heap.size w w' := by
  have wr : IntKind.i64.wrap (f6 + 1) = f6 + 1 := IntWalk.i64_in _ (by omega)
  have t1 : (f0 == 1) = false := by simp [hs]
  have t2 : (f0 != 1) = true := by simp [hs]
  clear hs
  clear hb3 hb6
  go_enter Try.func31, Try.ntmps31
  go_wp2_with fail
  generalize hX : (w.alloc (.cells #[.int .i64 f0, .int .i64 f1, .int .i64 f2, .int .i64 f3, .int .i64 f4, .int .i64 f5, .int .i64 f6] 34)) = w1
  have hb : Below w.heap.size w w1 := by rw [← hX]; exact balloc _ _
  have hk : Has w1 w.heap.size 34 #[.int .i64 f0, .int .i64 f1, .int .i64 f2, .int .i64 f3, .int .i64 f4, .int .i64 f5, .int .i64 f6] := by rw [← hX]; exact has_new _ _ _
  have hzw1 : w1.heap.size = w.heap.size + 1 := by rw [← hX]; simp
  clear hX
  have zb := hb; clear hb
  have za := hk; clear hk
  generalize hX : (w1.alloc (.cells #[.int .i64 x0, .int .i64 x1, .int .i64 x2, .int .i64 4, .int .i64 x4, .int .i64 x5, .int .i64 x6] 41)) = w2
  have hb : Below w1.heap.size w1 w2 := by rw [← hX]; exact balloc _ _
  have hk : Has w2 w1.heap.size 41 #[.int .i64 x0, .int .i64 x1, .int .i64 x2, .int .i64 4, .int .i64 x4, .int .i64 x5, .int .i64 x6] := by rw [← hX]; exact has_new _ _ _
  have hzw2 : w2.heap.size = w.heap.size + 2 := by rw [← hX]; simp [hzw1]
  clear hX
  rw [hzw1] at hk
  replace za := has_call za hb
  replace zb := bthen zb hb; clear hb
  have zb1 := hk; clear hk
  generalize hX : (w2.alloc (.cells #[.int .i64 0, .int .i64 0, .int .i64 0, .int .i64 0, .int .i64 0, .int .i64 0, .int .i64 0] 34)) = w3
  have hb : Below w2.heap.size w2 w3 := by rw [← hX]; exact balloc _ _
  have hk : Has w3 w2.heap.size 34 #[.int .i64 0, .int .i64 0, .int .i64 0, .int .i64 0, .int .i64 0, .int .i64 0, .int .i64 0] := by rw [← hX]; exact has_new _ _ _
  have hzw3 : w3.heap.size = w.heap.size + 3 := by rw [← hX]; simp [hzw2]
  clear hX
  rw [hzw2] at hk
  replace za := has_call za hb
  replace zb1 := has_call zb1 hb
  replace zb := bthen zb hb; clear hb
  have zr := hk; clear hk
  clear hzw1 hzw2 hzw3
  have Q1 := Lib.hid (show ∀ W, Calls Try.prog 41 #[.int .i64 4] W fun e w' => e = .returned (.int .i64 1) ∧ w' = W from fun W => before_any W 4)
  have zac0 := has_cell za 0 rfl; have zac1 := has_cell za 1 rfl; have zac2 := has_cell za 2 rfl; have zac3 := has_cell za 3 rfl; have zac4 := has_cell za 4 rfl; have zac5 := has_cell za 5 rfl; have zac6 := has_cell za 6 rfl
  have zalt := has_lt za
  have zb1c0 := has_cell zb1 0 rfl; have zb1c1 := has_cell zb1 1 rfl; have zb1c2 := has_cell zb1 2 rfl; have zb1c3 := has_cell zb1 3 rfl; have zb1c4 := has_cell zb1 4 rfl; have zb1c5 := has_cell zb1 5 rfl; have zb1c6 := has_cell zb1 6 rfl
  have zb1lt := has_lt zb1
  have zrc0 := has_cell zr 0 rfl; have zrc1 := has_cell zr 1 rfl; have zrc2 := has_cell zr 2 rfl; have zrc3 := has_cell zr 3 rfl; have zrc4 := has_cell zr 4 rfl; have zrc5 := has_cell zr 5 rfl; have zrc6 := has_cell zr 6 rfl
  have zrlt := has_lt zr
  have ZAH := Lib.hid za; clear za
  have ZB1H := Lib.hid zb1; clear zb1
  have ZRH := Lib.hid zr; clear zr
  have ZB := Lib.hid zb; clear zb
  go_quiet (first | (go_at_call 41; exact Calls.quiet_of_same (Q1.out _)))
  rename Nat => nq0
  clear zac0 zac1 zac2 zac3 zac4 zac5 zac6 zalt zb1c0 zb1c1 zb1c2 zb1c3 zb1c4 zb1c5 zb1c6 zb1lt zrc0 zrc1 zrc2 zrc3 zrc4 zrc5 zrc6 zrlt
  have za := ZAH.out; clear ZAH
  have zb1 := ZB1H.out; clear ZB1H
  have zr := ZRH.out; clear ZRH
  have zb := ZB.out; clear ZB
  generalize hX : w3.drewN nq0 = wq
  replace za := has_drewN za nq0; rw [hX] at za
  replace zb1 := has_drewN zb1 nq0; rw [hX] at zb1
  replace zr := has_drewN zr nq0; rw [hX] at zr
  replace zb := below_drewN zb nq0; rw [hX] at zb
  clear hX
  have zac0 := has_cell za 0 rfl; have zac1 := has_cell za 1 rfl; have zac2 := has_cell za 2 rfl; have zac3 := has_cell za 3 rfl; have zac4 := has_cell za 4 rfl; have zac5 := has_cell za 5 rfl; have zac6 := has_cell za 6 rfl
  have zaf0 := has_free za 0; have zaf1 := has_free za 1; have zaf2 := has_free za 2; have zaf3 := has_free za 3; have zaf4 := has_free za 4; have zaf5 := has_free za 5; have zaf6 := has_free za 6
  have zalt := has_lt za
  have zb1c0 := has_cell zb1 0 rfl; have zb1c1 := has_cell zb1 1 rfl; have zb1c2 := has_cell zb1 2 rfl; have zb1c3 := has_cell zb1 3 rfl; have zb1c4 := has_cell zb1 4 rfl; have zb1c5 := has_cell zb1 5 rfl; have zb1c6 := has_cell zb1 6 rfl
  have zb1lt := has_lt zb1
  have zrc0 := has_cell zr 0 rfl; have zrc1 := has_cell zr 1 rfl; have zrc2 := has_cell zr 2 rfl; have zrc3 := has_cell zr 3 rfl; have zrc4 := has_cell zr 4 rfl; have zrc5 := has_cell zr 5 rfl; have zrc6 := has_cell zr 6 rfl
  have zrf0 := has_free zr 0; have zrf1 := has_free zr 1; have zrf2 := has_free zr 2; have zrf3 := has_free zr 3; have zrf4 := has_free zr 4; have zrf5 := has_free zr 5; have zrf6 := has_free zr 6
  have zrlt := has_lt zr
  have ZAH := Lib.hid za; clear za
  have ZB1H := Lib.hid zb1; clear zb1
  have ZRH := Lib.hid zr; clear zr
  have ZB := Lib.hid zb; clear zb
  go_wp2_with fail
  refine bodyPost_ret (v := .agg #[.int .i64 f0, .int .i64 f1, .int .i64 f2, .int .i64 f3, .int .i64 f4, .int .i64 f5, .int .i64 (f6 + 1)]) (by simp [results, Try.results31, go_sem, zac0, zac1, zac2, zac3, zac4, zac5, zac6, zaf0, zaf1, zaf2, zaf3, zaf4, zaf5, zaf6, zalt, zb1c0, zb1c1, zb1c2, zb1c3, zb1c4, zb1c5, zb1c6, zb1lt, zrc0, zrc1, zrc2, zrc3, zrc4, zrc5, zrc6, zrf0, zrf1, zrf2, zrf3, zrf4, zrf5, zrf6, zrlt]) rfl ⟨rfl, ?_⟩
  repeat (first | (with_reducible exact ZB.out) | (with_reducible refine Below.drew ?_) | (with_reducible refine Below.setCell ?_ (by first | exact Nat.le_refl _ | exact Nat.le_succ _ | exact Nat.le_add_right _ 2) _))
theorem nextI_any (w : World) (f : Ft) (e : Ev) (hk : 1 ≤ e.knd ∧ e.knd ≤ 4) (hb3 : 0 ≤ f.ext ∧ f.ext ≤ 1000000) (hb6 : 0 ≤ f.cls ∧ f.cls ≤ 1000000) : Calls Try.prog 31 #[.agg f.A, .agg e.A] w fun e1 w' => e1 = .returned (.agg (nextE f e).A) ∧ Below w.heap.size w w' := by
  obtain ⟨f0, f1, f2, f3, f4, f5, f6⟩ := f; obtain ⟨x0, x1, x2, x3, x4, x5, x6⟩ := e; dsimp only at hk hb3 hb6
  have hkc : x3 = 1 ∨ x3 = 2 ∨ x3 = 3 ∨ x3 = 4 := by omega
  rcases hkc with rfl | rfl | rfl | rfl
  · by_cases hs : f0 = 0
    · subst hs; exact nextI_0 w f1 f2 f3 f4 f5 f6 x0 x1 x2 x4 x5 x6 hb3 hb6
    · have := nextI_1 w f0 f1 f2 f3 f4 f5 f6 x0 x1 x2 x4 x5 x6 hb3 hb6 hs; simpa [nextE, hs, Ft.A, Ev.A] using this
  · by_cases hs : f0 = 1
    · subst hs; exact nextI_2 w f1 f2 f3 f4 f5 f6 x0 x1 x2 x4 x5 x6 hb3 hb6
    · have := nextI_3 w f0 f1 f2 f3 f4 f5 f6 x0 x1 x2 x4 x5 x6 hb3 hb6 hs; simpa [nextE, hs, Ft.A, Ev.A] using this
  · by_cases hs : f0 = 1
    · subst hs; exact nextI_4 w f1 f2 f3 f4 f5 f6 x0 x1 x2 x4 x5 x6 hb3 hb6
    · have := nextI_5 w f0 f1 f2 f3 f4 f5 f6 x0 x1 x2 x4 x5 x6 hb3 hb6 hs; simpa [nextE, hs, Ft.A, Ev.A] using this
  · by_cases hs : f0 = 1
    · subst hs; exact nextI_6 w f1 f2 f3 f4 f5 f6 x0 x1 x2 x4 x5 x6 hb3 hb6
    · have := nextI_7 w f0 f1 f2 f3 f4 f5 f6 x0 x1 x2 x4 x5 x6 hb3 hb6 hs; simpa [nextE, hs, Ft.A, Ev.A] using this
end Go.Proofs.Ytnimdbmcpbpoiaa
