/- Chapter 3: contracts of LockOk and PadOk, both sides. -/
import Derived.Test.YtjpafmkmpnibgabDoorLckA
namespace Go.Proofs.YtjpafmkmpnibgabDoor
open Go.RowKit
set_option linter.unusedVariables false
def padB (s c : Int) : Bool := secB s && nextB c
theorem padB_iff {s c : Int} : padB s c = true ↔ (1 ≤ s ∧ s ≤ 2147483646) ∧ (0 ≤ c ∧ c ≤ 1000001) := by simp [padB, secB, nextB]
theorem next_in (n : Int) : nextB n = inR n 0 1000001 := rfl
theorem lockB_alt (s n t p u : Int) : lockB s n t p u = (secB s && nextB n && (decide (0 ≤ t) && decide (t < 3)) && (decide (0 ≤ p) && decide (p ≤ 6)) && (decide (0 ≤ u) && decide (u ≤ 20064))) := by
  have : decide (t < 3) = decide (t ≤ 2) := by rw [decide_eq_decide]; omega
  rw [this]; rfl

set_option maxRecDepth 100000 in
set_option maxHeartbeats 1000000 in
theorem lockS_any_1f (w : World) (s n t p u : Int) (h1 : (secB s) = false) :
    Calls Tryd.prog 29 #[.agg #[.int .i64 s, .int .i64 n, .int .i64 t, .int .i64 p, .int .i64 u]] w fun e w' => e = .returned (.bool (lockB s n t p u)) ∧ Below w.heap.size w w' := by
  go_enter Tryd.func29, Tryd.ntmps29
  go_wp2_with (first | (go_at_call 24; refine (secS_any _ _).mono ?_; rintro e w' ⟨rfl, rfl⟩; first | rw [h1]))
  go_ret
  exact ⟨rbool (by simp [lockB, next_in, h1]), balloc _ _⟩
set_option maxRecDepth 100000 in
set_option maxHeartbeats 1000000 in
theorem lockS_any_2f (w : World) (s n t p u : Int) (h1 : (secB s) = true) (h2 : (inR n 0 1000001) = false) :
    Calls Tryd.prog 29 #[.agg #[.int .i64 s, .int .i64 n, .int .i64 t, .int .i64 p, .int .i64 u]] w fun e w' => e = .returned (.bool (lockB s n t p u)) ∧ Below w.heap.size w w' := by
  go_enter Tryd.func29, Tryd.ntmps29
  go_wp2_with (first | (go_at_call 24; refine (secS_any _ _).mono ?_; rintro e w' ⟨rfl, rfl⟩; first | rw [h1]) | (go_at_call 25; refine (inR_any _ _ _ _).mono ?_; rintro e w' ⟨rfl, rfl⟩; first | rw [h2]))
  go_ret
  exact ⟨rbool (by simp [lockB, next_in, h1, h2]), balloc _ _⟩
set_option maxRecDepth 100000 in
set_option maxHeartbeats 1000000 in
theorem lockS_any_3f (w : World) (s n t p u : Int) (h1 : (secB s) = true) (h2 : (inR n 0 1000001) = true) (h3 : (inR t 0 2) = false) :
    Calls Tryd.prog 29 #[.agg #[.int .i64 s, .int .i64 n, .int .i64 t, .int .i64 p, .int .i64 u]] w fun e w' => e = .returned (.bool (lockB s n t p u)) ∧ Below w.heap.size w w' := by
  go_enter Tryd.func29, Tryd.ntmps29
  go_wp2_with (first | (go_at_call 24; refine (secS_any _ _).mono ?_; rintro e w' ⟨rfl, rfl⟩; first | rw [h1]) | (go_at_call 25; refine (inR_any _ _ _ _).mono ?_; rintro e w' ⟨rfl, rfl⟩; first | rw [h2] | rw [h3]))
  go_ret
  exact ⟨rbool (by simp [lockB, next_in, h1, h2, h3]), balloc _ _⟩
set_option maxRecDepth 100000 in
set_option maxHeartbeats 1000000 in
theorem lockS_any_4f (w : World) (s n t p u : Int) (h1 : (secB s) = true) (h2 : (inR n 0 1000001) = true) (h3 : (inR t 0 2) = true) (h4 : (inR p 0 6) = false) :
    Calls Tryd.prog 29 #[.agg #[.int .i64 s, .int .i64 n, .int .i64 t, .int .i64 p, .int .i64 u]] w fun e w' => e = .returned (.bool (lockB s n t p u)) ∧ Below w.heap.size w w' := by
  go_enter Tryd.func29, Tryd.ntmps29
  go_wp2_with (first | (go_at_call 24; refine (secS_any _ _).mono ?_; rintro e w' ⟨rfl, rfl⟩; first | rw [h1]) | (go_at_call 25; refine (inR_any _ _ _ _).mono ?_; rintro e w' ⟨rfl, rfl⟩; first | rw [h2] | rw [h3] | rw [h4]))
  go_ret
  exact ⟨rbool (by simp [lockB, next_in, h1, h2, h3, h4]), balloc _ _⟩
set_option maxRecDepth 100000 in
set_option maxHeartbeats 1000000 in
theorem lockS_any_5f (w : World) (s n t p u : Int) (h1 : (secB s) = true) (h2 : (inR n 0 1000001) = true) (h3 : (inR t 0 2) = true) (h4 : (inR p 0 6) = true) (h5 : (inR u 0 20064) = false) :
    Calls Tryd.prog 29 #[.agg #[.int .i64 s, .int .i64 n, .int .i64 t, .int .i64 p, .int .i64 u]] w fun e w' => e = .returned (.bool (lockB s n t p u)) ∧ Below w.heap.size w w' := by
  go_enter Tryd.func29, Tryd.ntmps29
  go_wp2_with (first | (go_at_call 24; refine (secS_any _ _).mono ?_; rintro e w' ⟨rfl, rfl⟩; first | rw [h1]) | (go_at_call 25; refine (inR_any _ _ _ _).mono ?_; rintro e w' ⟨rfl, rfl⟩; first | rw [h2] | rw [h3] | rw [h4] | rw [h5]))
  go_ret
  exact ⟨rbool (by simp [lockB, next_in, h1, h2, h3, h4, h5]), balloc _ _⟩
set_option maxRecDepth 100000 in
set_option maxHeartbeats 1000000 in
theorem lockS_any_5t (w : World) (s n t p u : Int) (h1 : (secB s) = true) (h2 : (inR n 0 1000001) = true) (h3 : (inR t 0 2) = true) (h4 : (inR p 0 6) = true) (h5 : (inR u 0 20064) = true) :
    Calls Tryd.prog 29 #[.agg #[.int .i64 s, .int .i64 n, .int .i64 t, .int .i64 p, .int .i64 u]] w fun e w' => e = .returned (.bool (lockB s n t p u)) ∧ Below w.heap.size w w' := by
  go_enter Tryd.func29, Tryd.ntmps29
  go_wp2_with (first | (go_at_call 24; refine (secS_any _ _).mono ?_; rintro e w' ⟨rfl, rfl⟩; first | rw [h1]) | (go_at_call 25; refine (inR_any _ _ _ _).mono ?_; rintro e w' ⟨rfl, rfl⟩; first | rw [h2] | rw [h3] | rw [h4] | rw [h5]))
  go_ret
  exact ⟨rbool (by simp [lockB, next_in, h1, h2, h3, h4, h5]), balloc _ _⟩
theorem lockS_any (w : World) (s n t p u : Int) : Calls Tryd.prog 29 #[.agg #[.int .i64 s, .int .i64 n, .int .i64 t, .int .i64 p, .int .i64 u]] w fun e w' => e = .returned (.bool (lockB s n t p u)) ∧ Below w.heap.size w w' := by
  cases h1 : secB s
  · exact lockS_any_1f w s n t p u h1
  cases h2 : inR n 0 1000001
  · exact lockS_any_2f w s n t p u h1 h2
  cases h3 : inR t 0 2
  · exact lockS_any_3f w s n t p u h1 h2 h3
  cases h4 : inR p 0 6
  · exact lockS_any_4f w s n t p u h1 h2 h3 h4
  cases h5 : inR u 0 20064
  · exact lockS_any_5f w s n t p u h1 h2 h3 h4 h5
  · exact lockS_any_5t w s n t p u h1 h2 h3 h4 h5
set_option maxRecDepth 100000 in
set_option maxHeartbeats 1000000 in
theorem padI_any_1f (w : World) (s c : Int) (h1 : (secB s) = false) :
    Calls Tryd.prog 36 #[.agg #[.int .i64 s, .int .i64 c]] w fun e w' => e = .returned (.bool (padB s c)) ∧ Below w.heap.size w w' := by
  go_enter Tryd.func36, Tryd.ntmps36
  go_wp2_with (first | (go_at_call 31; refine (secI_any _ _).mono ?_; rintro e w' ⟨rfl, rfl⟩; first | rw [h1]))
  go_ret
  exact ⟨rbool (by simp [padB, h1]), balloc _ _⟩
set_option maxRecDepth 100000 in
set_option maxHeartbeats 1000000 in
theorem padI_any_2f (w : World) (s c : Int) (h1 : (secB s) = true) (h2 : (nextB c) = false) :
    Calls Tryd.prog 36 #[.agg #[.int .i64 s, .int .i64 c]] w fun e w' => e = .returned (.bool (padB s c)) ∧ Below w.heap.size w w' := by
  go_enter Tryd.func36, Tryd.ntmps36
  go_wp2_with (first | (go_at_call 31; refine (secI_any _ _).mono ?_; rintro e w' ⟨rfl, rfl⟩; first | rw [h1]) | (go_at_call 34; refine (nextI_any _ _).mono ?_; rintro e w' ⟨rfl, rfl⟩; first | rw [h2]))
  go_ret
  exact ⟨rbool (by simp [padB, h1, h2]), balloc _ _⟩
set_option maxRecDepth 100000 in
set_option maxHeartbeats 1000000 in
theorem padI_any_2t (w : World) (s c : Int) (h1 : (secB s) = true) (h2 : (nextB c) = true) :
    Calls Tryd.prog 36 #[.agg #[.int .i64 s, .int .i64 c]] w fun e w' => e = .returned (.bool (padB s c)) ∧ Below w.heap.size w w' := by
  go_enter Tryd.func36, Tryd.ntmps36
  go_wp2_with (first | (go_at_call 31; refine (secI_any _ _).mono ?_; rintro e w' ⟨rfl, rfl⟩; first | rw [h1]) | (go_at_call 34; refine (nextI_any _ _).mono ?_; rintro e w' ⟨rfl, rfl⟩; first | rw [h2]))
  go_ret
  exact ⟨rbool (by simp [padB, h1, h2]), balloc _ _⟩
theorem padI_any (w : World) (s c : Int) : Calls Tryd.prog 36 #[.agg #[.int .i64 s, .int .i64 c]] w fun e w' => e = .returned (.bool (padB s c)) ∧ Below w.heap.size w w' := by
  cases h1 : secB s
  · exact padI_any_1f w s c h1
  cases h2 : nextB c
  · exact padI_any_2f w s c h1 h2
  · exact padI_any_2t w s c h1 h2
set_option maxRecDepth 100000 in
set_option maxHeartbeats 1000000 in
theorem lockI_any_1f (w : World) (s n t p u : Int) (h1 : (secB s) = false) :
    Calls Tryd.prog 16 #[.agg #[.int .i64 s, .int .i64 n, .int .i64 t, .int .i64 p, .int .i64 u]] w fun e w' => e = .returned (.bool (lockB s n t p u)) ∧ Below w.heap.size w w' := by
  have Q1 := Lib.hid (show ∀ W, Calls Tryd.prog 31 #[.int .i64 s] W fun e w' => e = .returned (.bool false) ∧ w' = W from fun W => by rw [← h1]; exact secI_any W s)
  go_enter Tryd.func16, Tryd.ntmps16
  go_wp2_with fail
  generalize hW0 : (w.alloc (.cells #[.int .i64 s, .int .i64 n, .int .i64 t, .int .i64 p, .int .i64 u] 25)) = w0
  have b0 : Below w.heap.size w w0 := by rw [← hW0]; exact balloc _ _
  have k0 : Has w0 w.heap.size 25 #[.int .i64 s, .int .i64 n, .int .i64 t, .int .i64 p, .int .i64 u] := by rw [← hW0]; exact has_new _ _ _
  clear hW0
  have e0 := has_cell k0 0 rfl; have e1 := has_cell k0 1 rfl; have e2 := has_cell k0 2 rfl; have e3 := has_cell k0 3 rfl; have e4 := has_cell k0 4 rfl
  have B0 := Lib.hid b0; clear b0 k0
  go_quiet (first | (go_at_call 31; exact Calls.quiet_of_same (Q1.out _)))
  go_wp2
  go_ret
  exact ⟨rbool (by rw [lockB_alt]; simp [h1]), below_drewN B0.out _⟩
set_option maxRecDepth 100000 in
set_option maxHeartbeats 1000000 in
theorem lockI_any_2f (w : World) (s n t p u : Int) (h1 : (secB s) = true) (h2 : (nextB n) = false) :
    Calls Tryd.prog 16 #[.agg #[.int .i64 s, .int .i64 n, .int .i64 t, .int .i64 p, .int .i64 u]] w fun e w' => e = .returned (.bool (lockB s n t p u)) ∧ Below w.heap.size w w' := by
  have Q1 := Lib.hid (show ∀ W, Calls Tryd.prog 31 #[.int .i64 s] W fun e w' => e = .returned (.bool true) ∧ w' = W from fun W => by rw [← h1]; exact secI_any W s)
  have Q2 := Lib.hid (show ∀ W, Calls Tryd.prog 34 #[.int .i64 n] W fun e w' => e = .returned (.bool false) ∧ w' = W from fun W => by rw [← h2]; exact nextI_any W n)
  go_enter Tryd.func16, Tryd.ntmps16
  go_wp2_with fail
  generalize hW0 : (w.alloc (.cells #[.int .i64 s, .int .i64 n, .int .i64 t, .int .i64 p, .int .i64 u] 25)) = w0
  have b0 : Below w.heap.size w w0 := by rw [← hW0]; exact balloc _ _
  have k0 : Has w0 w.heap.size 25 #[.int .i64 s, .int .i64 n, .int .i64 t, .int .i64 p, .int .i64 u] := by rw [← hW0]; exact has_new _ _ _
  clear hW0
  have e0 := has_cell k0 0 rfl; have e1 := has_cell k0 1 rfl; have e2 := has_cell k0 2 rfl; have e3 := has_cell k0 3 rfl; have e4 := has_cell k0 4 rfl
  have B0 := Lib.hid b0; clear b0 k0
  go_quiet (first | (go_at_call 31; exact Calls.quiet_of_same (Q1.out _)) | (go_at_call 34; exact Calls.quiet_of_same (Q2.out _)))
  go_wp2
  go_ret
  exact ⟨rbool (by rw [lockB_alt]; simp [h1, h2]), below_drewN B0.out _⟩
set_option maxRecDepth 100000 in
set_option maxHeartbeats 1000000 in
theorem lockI_any_3f (w : World) (s n t p u : Int) (h1 : (secB s) = true) (h2 : (nextB n) = true) (h3 : (decide (0 ≤ t)) = false) :
    Calls Tryd.prog 16 #[.agg #[.int .i64 s, .int .i64 n, .int .i64 t, .int .i64 p, .int .i64 u]] w fun e w' => e = .returned (.bool (lockB s n t p u)) ∧ Below w.heap.size w w' := by
  have Q1 := Lib.hid (show ∀ W, Calls Tryd.prog 31 #[.int .i64 s] W fun e w' => e = .returned (.bool true) ∧ w' = W from fun W => by rw [← h1]; exact secI_any W s)
  have Q2 := Lib.hid (show ∀ W, Calls Tryd.prog 34 #[.int .i64 n] W fun e w' => e = .returned (.bool true) ∧ w' = W from fun W => by rw [← h2]; exact nextI_any W n)
  go_enter Tryd.func16, Tryd.ntmps16
  go_wp2_with fail
  generalize hW0 : (w.alloc (.cells #[.int .i64 s, .int .i64 n, .int .i64 t, .int .i64 p, .int .i64 u] 25)) = w0
  have b0 : Below w.heap.size w w0 := by rw [← hW0]; exact balloc _ _
  have k0 : Has w0 w.heap.size 25 #[.int .i64 s, .int .i64 n, .int .i64 t, .int .i64 p, .int .i64 u] := by rw [← hW0]; exact has_new _ _ _
  clear hW0
  have e0 := has_cell k0 0 rfl; have e1 := has_cell k0 1 rfl; have e2 := has_cell k0 2 rfl; have e3 := has_cell k0 3 rfl; have e4 := has_cell k0 4 rfl
  have B0 := Lib.hid b0; clear b0 k0
  go_quiet (first | (go_at_call 31; exact Calls.quiet_of_same (Q1.out _)) | (go_at_call 34; exact Calls.quiet_of_same (Q2.out _)))
  go_wp2
  go_ret
  exact ⟨rbool (by rw [lockB_alt]; simp [h1, h2, h3]), below_drewN B0.out _⟩
set_option maxRecDepth 100000 in
set_option maxHeartbeats 1000000 in
theorem lockI_any_4f (w : World) (s n t p u : Int) (h1 : (secB s) = true) (h2 : (nextB n) = true) (h3 : (decide (0 ≤ t)) = true) (h4 : (decide (t < 3)) = false) :
    Calls Tryd.prog 16 #[.agg #[.int .i64 s, .int .i64 n, .int .i64 t, .int .i64 p, .int .i64 u]] w fun e w' => e = .returned (.bool (lockB s n t p u)) ∧ Below w.heap.size w w' := by
  have Q1 := Lib.hid (show ∀ W, Calls Tryd.prog 31 #[.int .i64 s] W fun e w' => e = .returned (.bool true) ∧ w' = W from fun W => by rw [← h1]; exact secI_any W s)
  have Q2 := Lib.hid (show ∀ W, Calls Tryd.prog 34 #[.int .i64 n] W fun e w' => e = .returned (.bool true) ∧ w' = W from fun W => by rw [← h2]; exact nextI_any W n)
  go_enter Tryd.func16, Tryd.ntmps16
  go_wp2_with fail
  generalize hW0 : (w.alloc (.cells #[.int .i64 s, .int .i64 n, .int .i64 t, .int .i64 p, .int .i64 u] 25)) = w0
  have b0 : Below w.heap.size w w0 := by rw [← hW0]; exact balloc _ _
  have k0 : Has w0 w.heap.size 25 #[.int .i64 s, .int .i64 n, .int .i64 t, .int .i64 p, .int .i64 u] := by rw [← hW0]; exact has_new _ _ _
  clear hW0
  have e0 := has_cell k0 0 rfl; have e1 := has_cell k0 1 rfl; have e2 := has_cell k0 2 rfl; have e3 := has_cell k0 3 rfl; have e4 := has_cell k0 4 rfl
  have B0 := Lib.hid b0; clear b0 k0
  go_quiet (first | (go_at_call 31; exact Calls.quiet_of_same (Q1.out _)) | (go_at_call 34; exact Calls.quiet_of_same (Q2.out _)))
  go_wp2
  go_ret
  exact ⟨rbool (by rw [lockB_alt]; simp [h1, h2, h3, h4]), below_drewN B0.out _⟩
set_option maxRecDepth 100000 in
set_option maxHeartbeats 1000000 in
theorem lockI_any_5f (w : World) (s n t p u : Int) (h1 : (secB s) = true) (h2 : (nextB n) = true) (h3 : (decide (0 ≤ t)) = true) (h4 : (decide (t < 3)) = true) (h5 : (decide (0 ≤ p)) = false) :
    Calls Tryd.prog 16 #[.agg #[.int .i64 s, .int .i64 n, .int .i64 t, .int .i64 p, .int .i64 u]] w fun e w' => e = .returned (.bool (lockB s n t p u)) ∧ Below w.heap.size w w' := by
  have Q1 := Lib.hid (show ∀ W, Calls Tryd.prog 31 #[.int .i64 s] W fun e w' => e = .returned (.bool true) ∧ w' = W from fun W => by rw [← h1]; exact secI_any W s)
  have Q2 := Lib.hid (show ∀ W, Calls Tryd.prog 34 #[.int .i64 n] W fun e w' => e = .returned (.bool true) ∧ w' = W from fun W => by rw [← h2]; exact nextI_any W n)
  go_enter Tryd.func16, Tryd.ntmps16
  go_wp2_with fail
  generalize hW0 : (w.alloc (.cells #[.int .i64 s, .int .i64 n, .int .i64 t, .int .i64 p, .int .i64 u] 25)) = w0
  have b0 : Below w.heap.size w w0 := by rw [← hW0]; exact balloc _ _
  have k0 : Has w0 w.heap.size 25 #[.int .i64 s, .int .i64 n, .int .i64 t, .int .i64 p, .int .i64 u] := by rw [← hW0]; exact has_new _ _ _
  clear hW0
  have e0 := has_cell k0 0 rfl; have e1 := has_cell k0 1 rfl; have e2 := has_cell k0 2 rfl; have e3 := has_cell k0 3 rfl; have e4 := has_cell k0 4 rfl
  have B0 := Lib.hid b0; clear b0 k0
  go_quiet (first | (go_at_call 31; exact Calls.quiet_of_same (Q1.out _)) | (go_at_call 34; exact Calls.quiet_of_same (Q2.out _)))
  go_wp2
  go_ret
  exact ⟨rbool (by rw [lockB_alt]; simp [h1, h2, h3, h4, h5]), below_drewN B0.out _⟩
set_option maxRecDepth 100000 in
set_option maxHeartbeats 1000000 in
theorem lockI_any_6f (w : World) (s n t p u : Int) (h1 : (secB s) = true) (h2 : (nextB n) = true) (h3 : (decide (0 ≤ t)) = true) (h4 : (decide (t < 3)) = true) (h5 : (decide (0 ≤ p)) = true) (h6 : (decide (p ≤ 6)) = false) :
    Calls Tryd.prog 16 #[.agg #[.int .i64 s, .int .i64 n, .int .i64 t, .int .i64 p, .int .i64 u]] w fun e w' => e = .returned (.bool (lockB s n t p u)) ∧ Below w.heap.size w w' := by
  have Q1 := Lib.hid (show ∀ W, Calls Tryd.prog 31 #[.int .i64 s] W fun e w' => e = .returned (.bool true) ∧ w' = W from fun W => by rw [← h1]; exact secI_any W s)
  have Q2 := Lib.hid (show ∀ W, Calls Tryd.prog 34 #[.int .i64 n] W fun e w' => e = .returned (.bool true) ∧ w' = W from fun W => by rw [← h2]; exact nextI_any W n)
  go_enter Tryd.func16, Tryd.ntmps16
  go_wp2_with fail
  generalize hW0 : (w.alloc (.cells #[.int .i64 s, .int .i64 n, .int .i64 t, .int .i64 p, .int .i64 u] 25)) = w0
  have b0 : Below w.heap.size w w0 := by rw [← hW0]; exact balloc _ _
  have k0 : Has w0 w.heap.size 25 #[.int .i64 s, .int .i64 n, .int .i64 t, .int .i64 p, .int .i64 u] := by rw [← hW0]; exact has_new _ _ _
  clear hW0
  have e0 := has_cell k0 0 rfl; have e1 := has_cell k0 1 rfl; have e2 := has_cell k0 2 rfl; have e3 := has_cell k0 3 rfl; have e4 := has_cell k0 4 rfl
  have B0 := Lib.hid b0; clear b0 k0
  go_quiet (first | (go_at_call 31; exact Calls.quiet_of_same (Q1.out _)) | (go_at_call 34; exact Calls.quiet_of_same (Q2.out _)))
  go_wp2
  go_ret
  exact ⟨rbool (by rw [lockB_alt]; simp [h1, h2, h3, h4, h5, h6]), below_drewN B0.out _⟩
set_option maxRecDepth 100000 in
set_option maxHeartbeats 1000000 in
theorem lockI_any_7f (w : World) (s n t p u : Int) (h1 : (secB s) = true) (h2 : (nextB n) = true) (h3 : (decide (0 ≤ t)) = true) (h4 : (decide (t < 3)) = true) (h5 : (decide (0 ≤ p)) = true) (h6 : (decide (p ≤ 6)) = true) (h7 : (decide (0 ≤ u)) = false) :
    Calls Tryd.prog 16 #[.agg #[.int .i64 s, .int .i64 n, .int .i64 t, .int .i64 p, .int .i64 u]] w fun e w' => e = .returned (.bool (lockB s n t p u)) ∧ Below w.heap.size w w' := by
  have Q1 := Lib.hid (show ∀ W, Calls Tryd.prog 31 #[.int .i64 s] W fun e w' => e = .returned (.bool true) ∧ w' = W from fun W => by rw [← h1]; exact secI_any W s)
  have Q2 := Lib.hid (show ∀ W, Calls Tryd.prog 34 #[.int .i64 n] W fun e w' => e = .returned (.bool true) ∧ w' = W from fun W => by rw [← h2]; exact nextI_any W n)
  go_enter Tryd.func16, Tryd.ntmps16
  go_wp2_with fail
  generalize hW0 : (w.alloc (.cells #[.int .i64 s, .int .i64 n, .int .i64 t, .int .i64 p, .int .i64 u] 25)) = w0
  have b0 : Below w.heap.size w w0 := by rw [← hW0]; exact balloc _ _
  have k0 : Has w0 w.heap.size 25 #[.int .i64 s, .int .i64 n, .int .i64 t, .int .i64 p, .int .i64 u] := by rw [← hW0]; exact has_new _ _ _
  clear hW0
  have e0 := has_cell k0 0 rfl; have e1 := has_cell k0 1 rfl; have e2 := has_cell k0 2 rfl; have e3 := has_cell k0 3 rfl; have e4 := has_cell k0 4 rfl
  have B0 := Lib.hid b0; clear b0 k0
  go_quiet (first | (go_at_call 31; exact Calls.quiet_of_same (Q1.out _)) | (go_at_call 34; exact Calls.quiet_of_same (Q2.out _)))
  go_wp2
  go_ret
  exact ⟨rbool (by rw [lockB_alt]; simp [h1, h2, h3, h4, h5, h6, h7]), below_drewN B0.out _⟩
set_option maxRecDepth 100000 in
set_option maxHeartbeats 1000000 in
theorem lockI_any_8f (w : World) (s n t p u : Int) (h1 : (secB s) = true) (h2 : (nextB n) = true) (h3 : (decide (0 ≤ t)) = true) (h4 : (decide (t < 3)) = true) (h5 : (decide (0 ≤ p)) = true) (h6 : (decide (p ≤ 6)) = true) (h7 : (decide (0 ≤ u)) = true) (h8 : (decide (u ≤ 20064)) = false) :
    Calls Tryd.prog 16 #[.agg #[.int .i64 s, .int .i64 n, .int .i64 t, .int .i64 p, .int .i64 u]] w fun e w' => e = .returned (.bool (lockB s n t p u)) ∧ Below w.heap.size w w' := by
  have Q1 := Lib.hid (show ∀ W, Calls Tryd.prog 31 #[.int .i64 s] W fun e w' => e = .returned (.bool true) ∧ w' = W from fun W => by rw [← h1]; exact secI_any W s)
  have Q2 := Lib.hid (show ∀ W, Calls Tryd.prog 34 #[.int .i64 n] W fun e w' => e = .returned (.bool true) ∧ w' = W from fun W => by rw [← h2]; exact nextI_any W n)
  have Q3 := Lib.hid (show ∀ W, Calls Tryd.prog 35 #[.int .i64 6] W fun e w' => e = .returned (.int .i64 64) ∧ w' = W from fun W => by have h := pauseOf_any W 6 (by omega) (by omega); exact h)
  go_enter Tryd.func16, Tryd.ntmps16
  go_wp2_with fail
  generalize hW0 : (w.alloc (.cells #[.int .i64 s, .int .i64 n, .int .i64 t, .int .i64 p, .int .i64 u] 25)) = w0
  have b0 : Below w.heap.size w w0 := by rw [← hW0]; exact balloc _ _
  have k0 : Has w0 w.heap.size 25 #[.int .i64 s, .int .i64 n, .int .i64 t, .int .i64 p, .int .i64 u] := by rw [← hW0]; exact has_new _ _ _
  clear hW0
  have e0 := has_cell k0 0 rfl; have e1 := has_cell k0 1 rfl; have e2 := has_cell k0 2 rfl; have e3 := has_cell k0 3 rfl; have e4 := has_cell k0 4 rfl
  have B0 := Lib.hid b0; clear b0 k0
  go_quiet (first | (go_at_call 31; exact Calls.quiet_of_same (Q1.out _)) | (go_at_call 34; exact Calls.quiet_of_same (Q2.out _)) | (go_at_call 35; exact Calls.quiet_of_same (Q3.out _)))
  go_wp2
  go_ret
  exact ⟨rbool (by rw [lockB_alt]; simp [h1, h2, h3, h4, h5, h6, h7, h8]), below_drewN B0.out _⟩
set_option maxRecDepth 100000 in
set_option maxHeartbeats 1000000 in
theorem lockI_any_8t (w : World) (s n t p u : Int) (h1 : (secB s) = true) (h2 : (nextB n) = true) (h3 : (decide (0 ≤ t)) = true) (h4 : (decide (t < 3)) = true) (h5 : (decide (0 ≤ p)) = true) (h6 : (decide (p ≤ 6)) = true) (h7 : (decide (0 ≤ u)) = true) (h8 : (decide (u ≤ 20064)) = true) :
    Calls Tryd.prog 16 #[.agg #[.int .i64 s, .int .i64 n, .int .i64 t, .int .i64 p, .int .i64 u]] w fun e w' => e = .returned (.bool (lockB s n t p u)) ∧ Below w.heap.size w w' := by
  have Q1 := Lib.hid (show ∀ W, Calls Tryd.prog 31 #[.int .i64 s] W fun e w' => e = .returned (.bool true) ∧ w' = W from fun W => by rw [← h1]; exact secI_any W s)
  have Q2 := Lib.hid (show ∀ W, Calls Tryd.prog 34 #[.int .i64 n] W fun e w' => e = .returned (.bool true) ∧ w' = W from fun W => by rw [← h2]; exact nextI_any W n)
  have Q3 := Lib.hid (show ∀ W, Calls Tryd.prog 35 #[.int .i64 6] W fun e w' => e = .returned (.int .i64 64) ∧ w' = W from fun W => by have h := pauseOf_any W 6 (by omega) (by omega); exact h)
  go_enter Tryd.func16, Tryd.ntmps16
  go_wp2_with fail
  generalize hW0 : (w.alloc (.cells #[.int .i64 s, .int .i64 n, .int .i64 t, .int .i64 p, .int .i64 u] 25)) = w0
  have b0 : Below w.heap.size w w0 := by rw [← hW0]; exact balloc _ _
  have k0 : Has w0 w.heap.size 25 #[.int .i64 s, .int .i64 n, .int .i64 t, .int .i64 p, .int .i64 u] := by rw [← hW0]; exact has_new _ _ _
  clear hW0
  have e0 := has_cell k0 0 rfl; have e1 := has_cell k0 1 rfl; have e2 := has_cell k0 2 rfl; have e3 := has_cell k0 3 rfl; have e4 := has_cell k0 4 rfl
  have B0 := Lib.hid b0; clear b0 k0
  go_quiet (first | (go_at_call 31; exact Calls.quiet_of_same (Q1.out _)) | (go_at_call 34; exact Calls.quiet_of_same (Q2.out _)) | (go_at_call 35; exact Calls.quiet_of_same (Q3.out _)))
  go_wp2
  go_ret
  exact ⟨rbool (by rw [lockB_alt]; simp [h1, h2, h3, h4, h5, h6, h7, h8]), below_drewN B0.out _⟩
theorem lockI_any (w : World) (s n t p u : Int) : Calls Tryd.prog 16 #[.agg #[.int .i64 s, .int .i64 n, .int .i64 t, .int .i64 p, .int .i64 u]] w fun e w' => e = .returned (.bool (lockB s n t p u)) ∧ Below w.heap.size w w' := by
  cases h1 : secB s
  · exact lockI_any_1f w s n t p u h1
  cases h2 : nextB n
  · exact lockI_any_2f w s n t p u h1 h2
  cases h3 : decide (0 ≤ t)
  · exact lockI_any_3f w s n t p u h1 h2 h3
  cases h4 : decide (t < 3)
  · exact lockI_any_4f w s n t p u h1 h2 h3 h4
  cases h5 : decide (0 ≤ p)
  · exact lockI_any_5f w s n t p u h1 h2 h3 h4 h5
  cases h6 : decide (p ≤ 6)
  · exact lockI_any_6f w s n t p u h1 h2 h3 h4 h5 h6
  cases h7 : decide (0 ≤ u)
  · exact lockI_any_7f w s n t p u h1 h2 h3 h4 h5 h6 h7
  cases h8 : decide (u ≤ 20064)
  · exact lockI_any_8f w s n t p u h1 h2 h3 h4 h5 h6 h7 h8
  · exact lockI_any_8t w s n t p u h1 h2 h3 h4 h5 h6 h7 h8
end Go.Proofs.YtjpafmkmpnibgabDoor
