
/- Chapter 3: codes: plain facts: the last six digits of a number, and the least count with a property. -/
import Derived.Test.YtjpkpfmpjgeeiaaGreatQ01
import Derived.WalkSpells
import Derived.OwnWalk
import Derived.Test.YtjpkpfmpjgeeiaaGreatQ12
import Derived.Deep.QuietTactic
import Derived.BigQuiet
import Derived.Deep.RegionHeld3
namespace Go.Proofs.YtjpkpfmpjgeeiaaGreat
open Go.RowKit
set_option linter.unusedVariables false

/-- the last n decimal digits of m -/
def lowD : Nat → Nat → List Int
  | 0, _ => []
  | n + 1, m => (48 + ((m / 10 ^ n % 10 : Nat) : Int)) :: lowD n m
def mul1 (x : Int) : Int := x * 48271 % 2147483647
def start3 (s c : Int) : Int := (s + 65537 * c) % 2147483647
def codeX (s c : Int) : Int := mul1 (mul1 (mul1 (start3 s c)))
def secB (s : Int) : Bool := decide (1 ≤ s) && decide (s ≤ 2147483646)
def cntB3 (c : Int) : Bool := decide (0 ≤ c) && decide (c ≤ 1000000)
def nxtB3 (c : Int) : Bool := decide (0 ≤ c) && decide (c ≤ 1000001)
theorem secB_iff {s : Int} : secB s = true ↔ 1 ≤ s ∧ s ≤ 2147483646 := by simp [secB]
/-- the text of a count -/
def codeT (s c : Int) : ByteArray := if secB s = true ∧ cntB3 c = true then strOfNums (lowD 6 (codeX s c).toNat) else ⟨#[]⟩
/-- the least number of the n from k on that has p; -1 if there is none -/
def findN (p : Int → Bool) : Int → Nat → Int
  | _, 0 => -1
  | k, n + 1 => if p k then k else findN p (k + 1) n
def lockB (s n t p u : Int) : Bool := secB s && nxtB3 n && inR t 0 2 && inR p 0 6 && inR u 0 20064
def pow2 (p : Int) : Int := 2 ^ p.toNat
end Go.Proofs.YtjpkpfmpjgeeiaaGreat
namespace Go.Proofs.YtjpkpfmpjgeeiaaGreat
open Go.RowKit
set_option linter.unusedVariables false

theorem inR_any (w : World) (x a b : Int) : Calls Tryz.prog 33 #[.int .i64 x, .int .i64 a, .int .i64 b] w fun e w' => e = .returned (.bool (inR x a b)) ∧ w' = w := by
  by_cases h0 : a ≤ x
  · by_cases h1 : x ≤ b
    · go_enter Tryz.func33, Tryz.ntmps33
      go_wp2
      go_ret
      exact ⟨rbool (by simp [inR, h0, h1]), rfl⟩
    · go_enter Tryz.func33, Tryz.ntmps33
      go_wp2
      go_ret
      exact ⟨rbool (by simp [inR]; omega), rfl⟩
  · go_enter Tryz.func33, Tryz.ntmps33
    go_wp2
    go_ret
    exact ⟨rbool (by simp [inR]; omega), rfl⟩
theorem secS_any (w : World) (x : Int) : Calls Tryz.prog 34 #[.int .i64 x] w fun e w' => e = .returned (.bool (secB x)) ∧ w' = w := by
  go_enter Tryz.func34, Tryz.ntmps34
  go_wp2_with fail
  refine (inR_any w x 1 2147483646).mono ?_
  rintro e w' ⟨rfl, rfl⟩
  go_wp2
  go_ret
  exact ⟨rfl, rfl⟩
theorem secI_any (w : World) (x : Int) : Calls Tryz.prog 75 #[.int .i64 x] w fun e w' => e = .returned (.bool (secB x)) ∧ w' = w := by
  by_cases h0 : 1 ≤ x
  · by_cases h1 : x ≤ 2147483646
    · go_enter Tryz.func75, Tryz.ntmps75
      go_wp2
      go_ret
      exact ⟨rbool (by simp [secB, h0, h1]), rfl⟩
    · go_enter Tryz.func75, Tryz.ntmps75
      go_wp2
      go_ret
      exact ⟨rbool (by simp [secB]; omega), rfl⟩
  · go_enter Tryz.func75, Tryz.ntmps75
    go_wp2
    go_ret
    exact ⟨rbool (by simp [secB]; omega), rfl⟩
theorem nextI_any (w : World) (x : Int) : Calls Tryz.prog 144 #[.int .i64 x] w fun e w' => e = .returned (.bool (nxtB3 x)) ∧ w' = w := by
  by_cases h0 : 0 ≤ x
  · by_cases h1 : x ≤ 1000001
    · go_enter Tryz.func144, Tryz.ntmps144
      go_wp2
      go_ret
      exact ⟨rbool (by simp [nxtB3, h0, h1]), rfl⟩
    · go_enter Tryz.func144, Tryz.ntmps144
      go_wp2
      go_ret
      exact ⟨rbool (by simp [nxtB3]; omega), rfl⟩
  · go_enter Tryz.func144, Tryz.ntmps144
    go_wp2
    go_ret
    exact ⟨rbool (by simp [nxtB3]; omega), rfl⟩
theorem time3_any (w : World) (x : Int) : Calls Tryz.prog 76 #[.int .i64 x] w fun e w' => e = .returned (.bool (inR x 0 20000)) ∧ w' = w := by
  by_cases h0 : 0 ≤ x
  · by_cases h1 : x ≤ 20000
    · go_enter Tryz.func76, Tryz.ntmps76
      go_wp2
      go_ret
      exact ⟨rbool (by simp [inR, h0, h1]), rfl⟩
    · go_enter Tryz.func76, Tryz.ntmps76
      go_wp2
      go_ret
      exact ⟨rbool (by simp [inR]; omega), rfl⟩
  · go_enter Tryz.func76, Tryz.ntmps76
    go_wp2
    go_ret
    exact ⟨rbool (by simp [inR]; omega), rfl⟩
theorem pauseOf_any (w : World) (p : Int) (h0 : 0 ≤ p) (h1 : p ≤ 6) : Calls Tryz.prog 145 #[.int .i64 p] w fun e w' => e = .returned (.int .i64 (pow2 p)) ∧ w' = w := by
  have hc : p = 0 ∨ p = 1 ∨ p = 2 ∨ p = 3 ∨ p = 4 ∨ p = 5 ∨ p = 6 := by omega
  rcases hc with rfl | rfl | rfl | rfl | rfl | rfl | rfl
  all_goals
    go_enter Tryz.func145, Tryz.ntmps145
    go_wp2
    go_ret
    exact ⟨rint (by decide), rfl⟩
end Go.Proofs.YtjpkpfmpjgeeiaaGreat
namespace Go.Proofs.YtjpkpfmpjgeeiaaGreat
open Go.RowKit
set_option linter.unusedVariables false
def padB (s c : Int) : Bool := secB s && nxtB3 c
theorem next_in (n : Int) : nxtB3 n = inR n 0 1000001 := rfl
theorem lockB_alt (s n t p u : Int) : lockB s n t p u = (secB s && nxtB3 n && (decide (0 ≤ t) && decide (t < 3)) && (decide (0 ≤ p) && decide (p ≤ 6)) && (decide (0 ≤ u) && decide (u ≤ 20064))) := by
  have : decide (t < 3) = decide (t ≤ 2) := by rw [decide_eq_decide]; omega
  rw [this]; rfl

set_option maxRecDepth 100000 in
set_option maxHeartbeats 1000000 in
theorem lockS_any_1f (w : World) (s n t p u : Int) (h1 : (secB s) = false) :
    Calls Tryz.prog 67 #[.agg #[.int .i64 s, .int .i64 n, .int .i64 t, .int .i64 p, .int .i64 u]] w fun e w' => e = .returned (.bool (lockB s n t p u)) ∧ Below w.heap.size w w' := by
  go_enter Tryz.func67, Tryz.ntmps67
  go_wp2_with (first | (go_at_call 34; refine (secS_any _ _).mono ?_; rintro e w' ⟨rfl, rfl⟩; first | rw [h1]))
  go_ret
  exact ⟨rbool (by simp [lockB, next_in, h1]), balloc _ _⟩
set_option maxRecDepth 100000 in
set_option maxHeartbeats 1000000 in
theorem lockS_any_2f (w : World) (s n t p u : Int) (h1 : (secB s) = true) (h2 : (inR n 0 1000001) = false) :
    Calls Tryz.prog 67 #[.agg #[.int .i64 s, .int .i64 n, .int .i64 t, .int .i64 p, .int .i64 u]] w fun e w' => e = .returned (.bool (lockB s n t p u)) ∧ Below w.heap.size w w' := by
  go_enter Tryz.func67, Tryz.ntmps67
  go_wp2_with (first | (go_at_call 34; refine (secS_any _ _).mono ?_; rintro e w' ⟨rfl, rfl⟩; first | rw [h1]) | (go_at_call 33; refine (inR_any _ _ _ _).mono ?_; rintro e w' ⟨rfl, rfl⟩; first | rw [h2]))
  go_ret
  exact ⟨rbool (by simp [lockB, next_in, h1, h2]), balloc _ _⟩
set_option maxRecDepth 100000 in
set_option maxHeartbeats 1000000 in
theorem lockS_any_3f (w : World) (s n t p u : Int) (h1 : (secB s) = true) (h2 : (inR n 0 1000001) = true) (h3 : (inR t 0 2) = false) :
    Calls Tryz.prog 67 #[.agg #[.int .i64 s, .int .i64 n, .int .i64 t, .int .i64 p, .int .i64 u]] w fun e w' => e = .returned (.bool (lockB s n t p u)) ∧ Below w.heap.size w w' := by
  go_enter Tryz.func67, Tryz.ntmps67
  go_wp2_with (first | (go_at_call 34; refine (secS_any _ _).mono ?_; rintro e w' ⟨rfl, rfl⟩; first | rw [h1]) | (go_at_call 33; refine (inR_any _ _ _ _).mono ?_; rintro e w' ⟨rfl, rfl⟩; first | rw [h2] | rw [h3]))
  go_ret
  exact ⟨rbool (by simp [lockB, next_in, h1, h2, h3]), balloc _ _⟩
set_option maxRecDepth 100000 in
set_option maxHeartbeats 1000000 in
theorem lockS_any_4f (w : World) (s n t p u : Int) (h1 : (secB s) = true) (h2 : (inR n 0 1000001) = true) (h3 : (inR t 0 2) = true) (h4 : (inR p 0 6) = false) :
    Calls Tryz.prog 67 #[.agg #[.int .i64 s, .int .i64 n, .int .i64 t, .int .i64 p, .int .i64 u]] w fun e w' => e = .returned (.bool (lockB s n t p u)) ∧ Below w.heap.size w w' := by
  go_enter Tryz.func67, Tryz.ntmps67
  go_wp2_with (first | (go_at_call 34; refine (secS_any _ _).mono ?_; rintro e w' ⟨rfl, rfl⟩; first | rw [h1]) | (go_at_call 33; refine (inR_any _ _ _ _).mono ?_; rintro e w' ⟨rfl, rfl⟩; first | rw [h2] | rw [h3] | rw [h4]))
  go_ret
  exact ⟨rbool (by simp [lockB, next_in, h1, h2, h3, h4]), balloc _ _⟩
set_option maxRecDepth 100000 in
set_option maxHeartbeats 1000000 in
theorem lockS_any_5f (w : World) (s n t p u : Int) (h1 : (secB s) = true) (h2 : (inR n 0 1000001) = true) (h3 : (inR t 0 2) = true) (h4 : (inR p 0 6) = true) (h5 : (inR u 0 20064) = false) :
    Calls Tryz.prog 67 #[.agg #[.int .i64 s, .int .i64 n, .int .i64 t, .int .i64 p, .int .i64 u]] w fun e w' => e = .returned (.bool (lockB s n t p u)) ∧ Below w.heap.size w w' := by
  go_enter Tryz.func67, Tryz.ntmps67
  go_wp2_with (first | (go_at_call 34; refine (secS_any _ _).mono ?_; rintro e w' ⟨rfl, rfl⟩; first | rw [h1]) | (go_at_call 33; refine (inR_any _ _ _ _).mono ?_; rintro e w' ⟨rfl, rfl⟩; first | rw [h2] | rw [h3] | rw [h4] | rw [h5]))
  go_ret
  exact ⟨rbool (by simp [lockB, next_in, h1, h2, h3, h4, h5]), balloc _ _⟩
set_option maxRecDepth 100000 in
set_option maxHeartbeats 1000000 in
theorem lockS_any_5t (w : World) (s n t p u : Int) (h1 : (secB s) = true) (h2 : (inR n 0 1000001) = true) (h3 : (inR t 0 2) = true) (h4 : (inR p 0 6) = true) (h5 : (inR u 0 20064) = true) :
    Calls Tryz.prog 67 #[.agg #[.int .i64 s, .int .i64 n, .int .i64 t, .int .i64 p, .int .i64 u]] w fun e w' => e = .returned (.bool (lockB s n t p u)) ∧ Below w.heap.size w w' := by
  go_enter Tryz.func67, Tryz.ntmps67
  go_wp2_with (first | (go_at_call 34; refine (secS_any _ _).mono ?_; rintro e w' ⟨rfl, rfl⟩; first | rw [h1]) | (go_at_call 33; refine (inR_any _ _ _ _).mono ?_; rintro e w' ⟨rfl, rfl⟩; first | rw [h2] | rw [h3] | rw [h4] | rw [h5]))
  go_ret
  exact ⟨rbool (by simp [lockB, next_in, h1, h2, h3, h4, h5]), balloc _ _⟩
theorem lockS_any (w : World) (s n t p u : Int) : Calls Tryz.prog 67 #[.agg #[.int .i64 s, .int .i64 n, .int .i64 t, .int .i64 p, .int .i64 u]] w fun e w' => e = .returned (.bool (lockB s n t p u)) ∧ Below w.heap.size w w' := by
  cases h1 : secB s
  · exact lockS_any_1f w s n t p u h1
  cases h2 : inR n 0 1000001
  · exact lockS_any_2f w s n t p u h1 h2
  cases h3 : inR t 0 2
  · exact lockS_any_3f w s n t p u h1 h2 h3
  cases h4 : inR p 0 6
  · exact lockS_any_4f w s n t p u h1 h2 h3 h4
  cases h5 : inR u 0 20064
  · exact lockS_any_5f w s n t p u h1 h2 h3 h4 h5
  · exact lockS_any_5t w s n t p u h1 h2 h3 h4 h5
set_option maxRecDepth 100000 in
set_option maxHeartbeats 1000000 in
theorem lockI_any_1f (w : World) (s n t p u : Int) (h1 : (secB s) = false) :
    Calls Tryz.prog 121 #[.agg #[.int .i64 s, .int .i64 n, .int .i64 t, .int .i64 p, .int .i64 u]] w fun e w' => e = .returned (.bool (lockB s n t p u)) ∧ Below w.heap.size w w' := by
  have Q1 := Lib.hid (show ∀ W, Calls Tryz.prog 75 #[.int .i64 s] W fun e w' => e = .returned (.bool false) ∧ w' = W from fun W => by rw [← h1]; exact secI_any W s)
  go_enter Tryz.func121, Tryz.ntmps121
  go_wp2_with fail
  generalize hW0 : (w.alloc (.cells #[.int .i64 s, .int .i64 n, .int .i64 t, .int .i64 p, .int .i64 u] 53)) = w0
  have b0 : Below w.heap.size w w0 := by rw [← hW0]; exact balloc _ _
  have k0 : Has w0 w.heap.size 53 #[.int .i64 s, .int .i64 n, .int .i64 t, .int .i64 p, .int .i64 u] := by rw [← hW0]; exact has_new _ _ _
  clear hW0
  have e0 := has_cell k0 0 rfl; have e1 := has_cell k0 1 rfl; have e2 := has_cell k0 2 rfl; have e3 := has_cell k0 3 rfl; have e4 := has_cell k0 4 rfl
  have B0 := Lib.hid b0; clear b0 k0
  go_quiet (first | (go_at_call 75; exact Calls.quiet_of_same (Q1.out _)))
  go_wp2
  go_ret
  exact ⟨rbool (by rw [lockB_alt]; simp [h1]), below_drewN B0.out _⟩
set_option maxRecDepth 100000 in
set_option maxHeartbeats 1000000 in
theorem lockI_any_2f (w : World) (s n t p u : Int) (h1 : (secB s) = true) (h2 : (nxtB3 n) = false) :
    Calls Tryz.prog 121 #[.agg #[.int .i64 s, .int .i64 n, .int .i64 t, .int .i64 p, .int .i64 u]] w fun e w' => e = .returned (.bool (lockB s n t p u)) ∧ Below w.heap.size w w' := by
  have Q1 := Lib.hid (show ∀ W, Calls Tryz.prog 75 #[.int .i64 s] W fun e w' => e = .returned (.bool true) ∧ w' = W from fun W => by rw [← h1]; exact secI_any W s)
  have Q2 := Lib.hid (show ∀ W, Calls Tryz.prog 144 #[.int .i64 n] W fun e w' => e = .returned (.bool false) ∧ w' = W from fun W => by rw [← h2]; exact nextI_any W n)
  go_enter Tryz.func121, Tryz.ntmps121
  go_wp2_with fail
  generalize hW0 : (w.alloc (.cells #[.int .i64 s, .int .i64 n, .int .i64 t, .int .i64 p, .int .i64 u] 53)) = w0
  have b0 : Below w.heap.size w w0 := by rw [← hW0]; exact balloc _ _
  have k0 : Has w0 w.heap.size 53 #[.int .i64 s, .int .i64 n, .int .i64 t, .int .i64 p, .int .i64 u] := by rw [← hW0]; exact has_new _ _ _
  clear hW0
  have e0 := has_cell k0 0 rfl; have e1 := has_cell k0 1 rfl; have e2 := has_cell k0 2 rfl; have e3 := has_cell k0 3 rfl; have e4 := has_cell k0 4 rfl
  have B0 := Lib.hid b0; clear b0 k0
  go_quiet (first | (go_at_call 75; exact Calls.quiet_of_same (Q1.out _)) | (go_at_call 144; exact Calls.quiet_of_same (Q2.out _)))
  go_wp2
  go_ret
  exact ⟨rbool (by rw [lockB_alt]; simp [h1, h2]), below_drewN B0.out _⟩
set_option maxRecDepth 100000 in
set_option maxHeartbeats 1000000 in
theorem lockI_any_3f (w : World) (s n t p u : Int) (h1 : (secB s) = true) (h2 : (nxtB3 n) = true) (h3 : (decide (0 ≤ t)) = false) :
    Calls Tryz.prog 121 #[.agg #[.int .i64 s, .int .i64 n, .int .i64 t, .int .i64 p, .int .i64 u]] w fun e w' => e = .returned (.bool (lockB s n t p u)) ∧ Below w.heap.size w w' := by
  have Q1 := Lib.hid (show ∀ W, Calls Tryz.prog 75 #[.int .i64 s] W fun e w' => e = .returned (.bool true) ∧ w' = W from fun W => by rw [← h1]; exact secI_any W s)
  have Q2 := Lib.hid (show ∀ W, Calls Tryz.prog 144 #[.int .i64 n] W fun e w' => e = .returned (.bool true) ∧ w' = W from fun W => by rw [← h2]; exact nextI_any W n)
  go_enter Tryz.func121, Tryz.ntmps121
  go_wp2_with fail
  generalize hW0 : (w.alloc (.cells #[.int .i64 s, .int .i64 n, .int .i64 t, .int .i64 p, .int .i64 u] 53)) = w0
  have b0 : Below w.heap.size w w0 := by rw [← hW0]; exact balloc _ _
  have k0 : Has w0 w.heap.size 53 #[.int .i64 s, .int .i64 n, .int .i64 t, .int .i64 p, .int .i64 u] := by rw [← hW0]; exact has_new _ _ _
  clear hW0
  have e0 := has_cell k0 0 rfl; have e1 := has_cell k0 1 rfl; have e2 := has_cell k0 2 rfl; have e3 := has_cell k0 3 rfl; have e4 := has_cell k0 4 rfl
  have B0 := Lib.hid b0; clear b0 k0
  go_quiet (first | (go_at_call 75; exact Calls.quiet_of_same (Q1.out _)) | (go_at_call 144; exact Calls.quiet_of_same (Q2.out _)))
  go_wp2
  go_ret
  exact ⟨rbool (by rw [lockB_alt]; simp [h1, h2, h3]), below_drewN B0.out _⟩
set_option maxRecDepth 100000 in
set_option maxHeartbeats 1000000 in
theorem lockI_any_4f (w : World) (s n t p u : Int) (h1 : (secB s) = true) (h2 : (nxtB3 n) = true) (h3 : (decide (0 ≤ t)) = true) (h4 : (decide (t < 3)) = false) :
    Calls Tryz.prog 121 #[.agg #[.int .i64 s, .int .i64 n, .int .i64 t, .int .i64 p, .int .i64 u]] w fun e w' => e = .returned (.bool (lockB s n t p u)) ∧ Below w.heap.size w w' := by
  have Q1 := Lib.hid (show ∀ W, Calls Tryz.prog 75 #[.int .i64 s] W fun e w' => e = .returned (.bool true) ∧ w' = W from fun W => by rw [← h1]; exact secI_any W s)
  have Q2 := Lib.hid (show ∀ W, Calls Tryz.prog 144 #[.int .i64 n] W fun e w' => e = .returned (.bool true) ∧ w' = W from fun W => by rw [← h2]; exact nextI_any W n)
  go_enter Tryz.func121, Tryz.ntmps121
  go_wp2_with fail
  generalize hW0 : (w.alloc (.cells #[.int .i64 s, .int .i64 n, .int .i64 t, .int .i64 p, .int .i64 u] 53)) = w0
  have b0 : Below w.heap.size w w0 := by rw [← hW0]; exact balloc _ _
  have k0 : Has w0 w.heap.size 53 #[.int .i64 s, .int .i64 n, .int .i64 t, .int .i64 p, .int .i64 u] := by rw [← hW0]; exact has_new _ _ _
  clear hW0
  have e0 := has_cell k0 0 rfl; have e1 := has_cell k0 1 rfl; have e2 := has_cell k0 2 rfl; have e3 := has_cell k0 3 rfl; have e4 := has_cell k0 4 rfl
  have B0 := Lib.hid b0; clear b0 k0
  go_quiet (first | (go_at_call 75; exact Calls.quiet_of_same (Q1.out _)) | (go_at_call 144; exact Calls.quiet_of_same (Q2.out _)))
  go_wp2
  go_ret
  exact ⟨rbool (by rw [lockB_alt]; simp [h1, h2, h3, h4]), below_drewN B0.out _⟩
set_option maxRecDepth 100000 in
set_option maxHeartbeats 1000000 in
theorem lockI_any_5f (w : World) (s n t p u : Int) (h1 : (secB s) = true) (h2 : (nxtB3 n) = true) (h3 : (decide (0 ≤ t)) = true) (h4 : (decide (t < 3)) = true) (h5 : (decide (0 ≤ p)) = false) :
    Calls Tryz.prog 121 #[.agg #[.int .i64 s, .int .i64 n, .int .i64 t, .int .i64 p, .int .i64 u]] w fun e w' => e = .returned (.bool (lockB s n t p u)) ∧ Below w.heap.size w w' := by
  have Q1 := Lib.hid (show ∀ W, Calls Tryz.prog 75 #[.int .i64 s] W fun e w' => e = .returned (.bool true) ∧ w' = W from fun W => by rw [← h1]; exact secI_any W s)
  have Q2 := Lib.hid (show ∀ W, Calls Tryz.prog 144 #[.int .i64 n] W fun e w' => e = .returned (.bool true) ∧ w' = W from fun W => by rw [← h2]; exact nextI_any W n)
  go_enter Tryz.func121, Tryz.ntmps121
  go_wp2_with fail
  generalize hW0 : (w.alloc (.cells #[.int .i64 s, .int .i64 n, .int .i64 t, .int .i64 p, .int .i64 u] 53)) = w0
  have b0 : Below w.heap.size w w0 := by rw [← hW0]; exact balloc _ _
  have k0 : Has w0 w.heap.size 53 #[.int .i64 s, .int .i64 n, .int .i64 t, .int .i64 p, .int .i64 u] := by rw [← hW0]; exact has_new _ _ _
  clear hW0
  have e0 := has_cell k0 0 rfl; have e1 := has_cell k0 1 rfl; have e2 := has_cell k0 2 rfl; have e3 := has_cell k0 3 rfl; have e4 := has_cell k0 4 rfl
  have B0 := Lib.hid b0; clear b0 k0
  go_quiet (first | (go_at_call 75; exact Calls.quiet_of_same (Q1.out _)) | (go_at_call 144; exact Calls.quiet_of_same (Q2.out _)))
  go_wp2
  go_ret
  exact ⟨rbool (by rw [lockB_alt]; simp [h1, h2, h3, h4, h5]), below_drewN B0.out _⟩
set_option maxRecDepth 100000 in
set_option maxHeartbeats 1000000 in
theorem lockI_any_6f (w : World) (s n t p u : Int) (h1 : (secB s) = true) (h2 : (nxtB3 n) = true) (h3 : (decide (0 ≤ t)) = true) (h4 : (decide (t < 3)) = true) (h5 : (decide (0 ≤ p)) = true) (h6 : (decide (p ≤ 6)) = false) :
    Calls Tryz.prog 121 #[.agg #[.int .i64 s, .int .i64 n, .int .i64 t, .int .i64 p, .int .i64 u]] w fun e w' => e = .returned (.bool (lockB s n t p u)) ∧ Below w.heap.size w w' := by
  have Q1 := Lib.hid (show ∀ W, Calls Tryz.prog 75 #[.int .i64 s] W fun e w' => e = .returned (.bool true) ∧ w' = W from fun W => by rw [← h1]; exact secI_any W s)
  have Q2 := Lib.hid (show ∀ W, Calls Tryz.prog 144 #[.int .i64 n] W fun e w' => e = .returned (.bool true) ∧ w' = W from fun W => by rw [← h2]; exact nextI_any W n)
  go_enter Tryz.func121, Tryz.ntmps121
  go_wp2_with fail
  generalize hW0 : (w.alloc (.cells #[.int .i64 s, .int .i64 n, .int .i64 t, .int .i64 p, .int .i64 u] 53)) = w0
  have b0 : Below w.heap.size w w0 := by rw [← hW0]; exact balloc _ _
  have k0 : Has w0 w.heap.size 53 #[.int .i64 s, .int .i64 n, .int .i64 t, .int .i64 p, .int .i64 u] := by rw [← hW0]; exact has_new _ _ _
  clear hW0
  have e0 := has_cell k0 0 rfl; have e1 := has_cell k0 1 rfl; have e2 := has_cell k0 2 rfl; have e3 := has_cell k0 3 rfl; have e4 := has_cell k0 4 rfl
  have B0 := Lib.hid b0; clear b0 k0
  go_quiet (first | (go_at_call 75; exact Calls.quiet_of_same (Q1.out _)) | (go_at_call 144; exact Calls.quiet_of_same (Q2.out _)))
  go_wp2
  go_ret
  exact ⟨rbool (by rw [lockB_alt]; simp [h1, h2, h3, h4, h5, h6]), below_drewN B0.out _⟩
set_option maxRecDepth 100000 in
set_option maxHeartbeats 1000000 in
theorem lockI_any_7f (w : World) (s n t p u : Int) (h1 : (secB s) = true) (h2 : (nxtB3 n) = true) (h3 : (decide (0 ≤ t)) = true) (h4 : (decide (t < 3)) = true) (h5 : (decide (0 ≤ p)) = true) (h6 : (decide (p ≤ 6)) = true) (h7 : (decide (0 ≤ u)) = false) :
    Calls Tryz.prog 121 #[.agg #[.int .i64 s, .int .i64 n, .int .i64 t, .int .i64 p, .int .i64 u]] w fun e w' => e = .returned (.bool (lockB s n t p u)) ∧ Below w.heap.size w w' := by
  have Q1 := Lib.hid (show ∀ W, Calls Tryz.prog 75 #[.int .i64 s] W fun e w' => e = .returned (.bool true) ∧ w' = W from fun W => by rw [← h1]; exact secI_any W s)
  have Q2 := Lib.hid (show ∀ W, Calls Tryz.prog 144 #[.int .i64 n] W fun e w' => e = .returned (.bool true) ∧ w' = W from fun W => by rw [← h2]; exact nextI_any W n)
  go_enter Tryz.func121, Tryz.ntmps121
  go_wp2_with fail
  generalize hW0 : (w.alloc (.cells #[.int .i64 s, .int .i64 n, .int .i64 t, .int .i64 p, .int .i64 u] 53)) = w0
  have b0 : Below w.heap.size w w0 := by rw [← hW0]; exact balloc _ _
  have k0 : Has w0 w.heap.size 53 #[.int .i64 s, .int .i64 n, .int .i64 t, .int .i64 p, .int .i64 u] := by rw [← hW0]; exact has_new _ _ _
  clear hW0
  have e0 := has_cell k0 0 rfl; have e1 := has_cell k0 1 rfl; have e2 := has_cell k0 2 rfl; have e3 := has_cell k0 3 rfl; have e4 := has_cell k0 4 rfl
  have B0 := Lib.hid b0; clear b0 k0
  go_quiet (first | (go_at_call 75; exact Calls.quiet_of_same (Q1.out _)) | (go_at_call 144; exact Calls.quiet_of_same (Q2.out _)))
  go_wp2
  go_ret
  exact ⟨rbool (by rw [lockB_alt]; simp [h1, h2, h3, h4, h5, h6, h7]), below_drewN B0.out _⟩
set_option maxRecDepth 100000 in
set_option maxHeartbeats 1000000 in
theorem lockI_any_8f (w : World) (s n t p u : Int) (h1 : (secB s) = true) (h2 : (nxtB3 n) = true) (h3 : (decide (0 ≤ t)) = true) (h4 : (decide (t < 3)) = true) (h5 : (decide (0 ≤ p)) = true) (h6 : (decide (p ≤ 6)) = true) (h7 : (decide (0 ≤ u)) = true) (h8 : (decide (u ≤ 20064)) = false) :
    Calls Tryz.prog 121 #[.agg #[.int .i64 s, .int .i64 n, .int .i64 t, .int .i64 p, .int .i64 u]] w fun e w' => e = .returned (.bool (lockB s n t p u)) ∧ Below w.heap.size w w' := by
  have Q1 := Lib.hid (show ∀ W, Calls Tryz.prog 75 #[.int .i64 s] W fun e w' => e = .returned (.bool true) ∧ w' = W from fun W => by rw [← h1]; exact secI_any W s)
  have Q2 := Lib.hid (show ∀ W, Calls Tryz.prog 144 #[.int .i64 n] W fun e w' => e = .returned (.bool true) ∧ w' = W from fun W => by rw [← h2]; exact nextI_any W n)
  have Q3 := Lib.hid (show ∀ W, Calls Tryz.prog 145 #[.int .i64 6] W fun e w' => e = .returned (.int .i64 64) ∧ w' = W from fun W => by have h := pauseOf_any W 6 (by omega) (by omega); exact h)
  go_enter Tryz.func121, Tryz.ntmps121
  go_wp2_with fail
  generalize hW0 : (w.alloc (.cells #[.int .i64 s, .int .i64 n, .int .i64 t, .int .i64 p, .int .i64 u] 53)) = w0
  have b0 : Below w.heap.size w w0 := by rw [← hW0]; exact balloc _ _
  have k0 : Has w0 w.heap.size 53 #[.int .i64 s, .int .i64 n, .int .i64 t, .int .i64 p, .int .i64 u] := by rw [← hW0]; exact has_new _ _ _
  clear hW0
  have e0 := has_cell k0 0 rfl; have e1 := has_cell k0 1 rfl; have e2 := has_cell k0 2 rfl; have e3 := has_cell k0 3 rfl; have e4 := has_cell k0 4 rfl
  have B0 := Lib.hid b0; clear b0 k0
  go_quiet (first | (go_at_call 75; exact Calls.quiet_of_same (Q1.out _)) | (go_at_call 144; exact Calls.quiet_of_same (Q2.out _)) | (go_at_call 145; exact Calls.quiet_of_same (Q3.out _)))
  go_wp2
  go_ret
  exact ⟨rbool (by rw [lockB_alt]; simp [h1, h2, h3, h4, h5, h6, h7, h8]), below_drewN B0.out _⟩
set_option maxRecDepth 100000 in
set_option maxHeartbeats 1000000 in
theorem lockI_any_8t (w : World) (s n t p u : Int) (h1 : (secB s) = true) (h2 : (nxtB3 n) = true) (h3 : (decide (0 ≤ t)) = true) (h4 : (decide (t < 3)) = true) (h5 : (decide (0 ≤ p)) = true) (h6 : (decide (p ≤ 6)) = true) (h7 : (decide (0 ≤ u)) = true) (h8 : (decide (u ≤ 20064)) = true) :
    Calls Tryz.prog 121 #[.agg #[.int .i64 s, .int .i64 n, .int .i64 t, .int .i64 p, .int .i64 u]] w fun e w' => e = .returned (.bool (lockB s n t p u)) ∧ Below w.heap.size w w' := by
  have Q1 := Lib.hid (show ∀ W, Calls Tryz.prog 75 #[.int .i64 s] W fun e w' => e = .returned (.bool true) ∧ w' = W from fun W => by rw [← h1]; exact secI_any W s)
  have Q2 := Lib.hid (show ∀ W, Calls Tryz.prog 144 #[.int .i64 n] W fun e w' => e = .returned (.bool true) ∧ w' = W from fun W => by rw [← h2]; exact nextI_any W n)
  have Q3 := Lib.hid (show ∀ W, Calls Tryz.prog 145 #[.int .i64 6] W fun e w' => e = .returned (.int .i64 64) ∧ w' = W from fun W => by have h := pauseOf_any W 6 (by omega) (by omega); exact h)
  go_enter Tryz.func121, Tryz.ntmps121
  go_wp2_with fail
  generalize hW0 : (w.alloc (.cells #[.int .i64 s, .int .i64 n, .int .i64 t, .int .i64 p, .int .i64 u] 53)) = w0
  have b0 : Below w.heap.size w w0 := by rw [← hW0]; exact balloc _ _
  have k0 : Has w0 w.heap.size 53 #[.int .i64 s, .int .i64 n, .int .i64 t, .int .i64 p, .int .i64 u] := by rw [← hW0]; exact has_new _ _ _
  clear hW0
  have e0 := has_cell k0 0 rfl; have e1 := has_cell k0 1 rfl; have e2 := has_cell k0 2 rfl; have e3 := has_cell k0 3 rfl; have e4 := has_cell k0 4 rfl
  have B0 := Lib.hid b0; clear b0 k0
  go_quiet (first | (go_at_call 75; exact Calls.quiet_of_same (Q1.out _)) | (go_at_call 144; exact Calls.quiet_of_same (Q2.out _)) | (go_at_call 145; exact Calls.quiet_of_same (Q3.out _)))
  go_wp2
  go_ret
  exact ⟨rbool (by rw [lockB_alt]; simp [h1, h2, h3, h4, h5, h6, h7, h8]), below_drewN B0.out _⟩
theorem lockI_any (w : World) (s n t p u : Int) : Calls Tryz.prog 121 #[.agg #[.int .i64 s, .int .i64 n, .int .i64 t, .int .i64 p, .int .i64 u]] w fun e w' => e = .returned (.bool (lockB s n t p u)) ∧ Below w.heap.size w w' := by
  cases h1 : secB s
  · exact lockI_any_1f w s n t p u h1
  cases h2 : nxtB3 n
  · exact lockI_any_2f w s n t p u h1 h2
  cases h3 : decide (0 ≤ t)
  · exact lockI_any_3f w s n t p u h1 h2 h3
  cases h4 : decide (t < 3)
  · exact lockI_any_4f w s n t p u h1 h2 h3 h4
  cases h5 : decide (0 ≤ p)
  · exact lockI_any_5f w s n t p u h1 h2 h3 h4 h5
  cases h6 : decide (p ≤ 6)
  · exact lockI_any_6f w s n t p u h1 h2 h3 h4 h5 h6
  cases h7 : decide (0 ≤ u)
  · exact lockI_any_7f w s n t p u h1 h2 h3 h4 h5 h6 h7
  cases h8 : decide (u ≤ 20064)
  · exact lockI_any_8f w s n t p u h1 h2 h3 h4 h5 h6 h7 h8
  · exact lockI_any_8t w s n t p u h1 h2 h3 h4 h5 h6 h7 h8
end Go.Proofs.YtjpkpfmpjgeeiaaGreat
