/- Chapter 3: contracts of the small functions over locks and pads. -/
import Derived.Test.YtjpafmkmpnibgabDoorCodP
import Derived.Deep.QuietTactic
import Derived.BigQuiet
import Derived.Deep.RegionHeld3
namespace Go.Proofs.YtjpafmkmpnibgabDoor
open Go.RowKit
set_option linter.unusedVariables false

theorem rbool {a b : Bool} (h : a = b) : Ending.returned (.bool a) = .returned (.bool b) := by rw [h]
theorem rint {a b : Int} (h : a = b) : Ending.returned (.int .i64 a) = .returned (.int .i64 b) := by rw [h]
theorem retv3 {a b : ByteArray} (h : a = b) : Ending.returned (.string b) = .returned (.string a) := by rw [h]
theorem inR_any (w : World) (x a b : Int) : Calls Tryd.prog 25 #[.int .i64 x, .int .i64 a, .int .i64 b] w fun e w' => e = .returned (.bool (inR x a b)) ∧ w' = w := by
  by_cases h0 : a ≤ x
  · by_cases h1 : x ≤ b
    · go_enter Tryd.func25, Tryd.ntmps25
      go_wp2
      go_ret
      exact ⟨rbool (by simp [inR, h0, h1]), rfl⟩
    · go_enter Tryd.func25, Tryd.ntmps25
      go_wp2
      go_ret
      exact ⟨rbool (by simp [inR]; omega), rfl⟩
  · go_enter Tryd.func25, Tryd.ntmps25
    go_wp2
    go_ret
    exact ⟨rbool (by simp [inR]; omega), rfl⟩
theorem secS_any (w : World) (x : Int) : Calls Tryd.prog 24 #[.int .i64 x] w fun e w' => e = .returned (.bool (secB x)) ∧ w' = w := by
  go_enter Tryd.func24, Tryd.ntmps24
  go_wp2_with fail
  refine (inR_any w x 1 2147483646).mono ?_
  rintro e w' ⟨rfl, rfl⟩
  go_wp2
  go_ret
  exact ⟨rfl, rfl⟩
theorem secI_any (w : World) (x : Int) : Calls Tryd.prog 31 #[.int .i64 x] w fun e w' => e = .returned (.bool (secB x)) ∧ w' = w := by
  by_cases h0 : 1 ≤ x
  · by_cases h1 : x ≤ 2147483646
    · go_enter Tryd.func31, Tryd.ntmps31
      go_wp2
      go_ret
      exact ⟨rbool (by simp [secB, h0, h1]), rfl⟩
    · go_enter Tryd.func31, Tryd.ntmps31
      go_wp2
      go_ret
      exact ⟨rbool (by simp [secB]; omega), rfl⟩
  · go_enter Tryd.func31, Tryd.ntmps31
    go_wp2
    go_ret
    exact ⟨rbool (by simp [secB]; omega), rfl⟩
theorem countI_any (w : World) (x : Int) : Calls Tryd.prog 32 #[.int .i64 x] w fun e w' => e = .returned (.bool (cntB3 x)) ∧ w' = w := by
  by_cases h0 : 0 ≤ x
  · by_cases h1 : x ≤ 1000000
    · go_enter Tryd.func32, Tryd.ntmps32
      go_wp2
      go_ret
      exact ⟨rbool (by simp [cntB3, h0, h1]), rfl⟩
    · go_enter Tryd.func32, Tryd.ntmps32
      go_wp2
      go_ret
      exact ⟨rbool (by simp [cntB3]; omega), rfl⟩
  · go_enter Tryd.func32, Tryd.ntmps32
    go_wp2
    go_ret
    exact ⟨rbool (by simp [cntB3]; omega), rfl⟩
theorem nextI_any (w : World) (x : Int) : Calls Tryd.prog 34 #[.int .i64 x] w fun e w' => e = .returned (.bool (nextB x)) ∧ w' = w := by
  by_cases h0 : 0 ≤ x
  · by_cases h1 : x ≤ 1000001
    · go_enter Tryd.func34, Tryd.ntmps34
      go_wp2
      go_ret
      exact ⟨rbool (by simp [nextB, h0, h1]), rfl⟩
    · go_enter Tryd.func34, Tryd.ntmps34
      go_wp2
      go_ret
      exact ⟨rbool (by simp [nextB]; omega), rfl⟩
  · go_enter Tryd.func34, Tryd.ntmps34
    go_wp2
    go_ret
    exact ⟨rbool (by simp [nextB]; omega), rfl⟩
theorem time3_any (w : World) (x : Int) : Calls Tryd.prog 44 #[.int .i64 x] w fun e w' => e = .returned (.bool (inR x 0 20000)) ∧ w' = w := by
  by_cases h0 : 0 ≤ x
  · by_cases h1 : x ≤ 20000
    · go_enter Tryd.func44, Tryd.ntmps44
      go_wp2
      go_ret
      exact ⟨rbool (by simp [inR, h0, h1]), rfl⟩
    · go_enter Tryd.func44, Tryd.ntmps44
      go_wp2
      go_ret
      exact ⟨rbool (by simp [inR]; omega), rfl⟩
  · go_enter Tryd.func44, Tryd.ntmps44
    go_wp2
    go_ret
    exact ⟨rbool (by simp [inR]; omega), rfl⟩
theorem pauseOf_any (w : World) (p : Int) (h0 : 0 ≤ p) (h1 : p ≤ 6) : Calls Tryd.prog 35 #[.int .i64 p] w fun e w' => e = .returned (.int .i64 (pow2 p)) ∧ w' = w := by
  have hc : p = 0 ∨ p = 1 ∨ p = 2 ∨ p = 3 ∨ p = 4 ∨ p = 5 ∨ p = 6 := by omega
  rcases hc with rfl | rfl | rfl | rfl | rfl | rfl | rfl
  all_goals
    go_enter Tryd.func35, Tryd.ntmps35
    go_wp2
    go_ret
    exact ⟨rint (by decide), rfl⟩
theorem pausesAfter_any (w : World) (p : Int) (h0 : 0 ≤ p) (h1 : p ≤ 6) : Calls Tryd.prog 48 #[.int .i64 p] w fun e w' => e = .returned (.int .i64 (min (p + 1) 6)) ∧ w' = w := by
  have hc : p = 0 ∨ p = 1 ∨ p = 2 ∨ p = 3 ∨ p = 4 ∨ p = 5 ∨ p = 6 := by omega
  rcases hc with rfl | rfl | rfl | rfl | rfl | rfl | rfl
  all_goals
    go_enter Tryd.func48, Tryd.ntmps48
    go_wp2
    go_ret
    exact ⟨rint (by decide), rfl⟩
set_option maxHeartbeats 400000 in
theorem power_any (w : World) (p : Int) (h0 : 0 ≤ p) (h1 : p ≤ 6) : Calls Tryd.prog 47 #[.int .i64 p] w fun e w' => e = .returned (.int .i64 (pow2 p)) ∧ w' = w := by
  go_enter Tryd.func47, Tryd.ntmps47
  go_wp2
  go_loop [3, 4] (fun nv iv => ∃ k : Nat, (k : Int) ≤ p ∧ iv = .int .i64 k ∧ nv = .int .i64 (2 ^ k)) (fun _ iv => (p - intOf iv).toNat)
  case atStart => exact ⟨0, by omega, rfl, rfl⟩
  case round =>
    obtain ⟨k, hk, rfl, rfl⟩ := hrel
    have hb : (2 : Int) ^ k ≤ 64 := by
      have h1 : (2 : Nat) ^ k ≤ 2 ^ 6 := Nat.pow_le_pow_right (by omega) (by omega)
      have e : (2 : Int) ^ k = ((2 ^ k : Nat) : Int) := by simp
      rw [e]; omega
    have hp : 0 ≤ (2 : Int) ^ k := Int.le_of_lt (Int.pow_pos (by omega))
    have hs : (2 : Int) ^ (k + 1) = 2 * 2 ^ k := by rw [Int.pow_succ]; omega
    by_cases hlt : (k : Int) < p
    · generalize (2 : Int) ^ k = q at *
      go_wp2
      go_round
      case rel => exact ⟨k + 1, by omega, by go_num, by rw [hs]⟩
      case measure => simp [intOf]; omega
    · have hkp : p.toNat = k := by omega
      have hf : pow2 p = 2 ^ k := by rw [pow2, hkp]
      go_wp2
      go_ret
      first | exact ⟨rint rfl, rfl⟩ | exact ⟨rint hf.symm, rfl⟩
end Go.Proofs.YtjpafmkmpnibgabDoor
