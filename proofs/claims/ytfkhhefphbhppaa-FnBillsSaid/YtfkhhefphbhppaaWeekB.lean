/- Chapter 1: weeks: contracts of WeekOk, of an hour's being open, and of IsOpen. -/
import Derived.Test.YtfkhhefphbhppaaWeekA
namespace Go.Proofs.Ytfkhhefphbhppaa
open Go.RowKit
set_option linter.unusedVariables false

set_option maxHeartbeats 400000 in
theorem weekI_any (w : World) (B : Nat) (A A' : Option Addr) (n n' : Nat) (o c : List (Int × Int)) (ho : o.length ≤ maxLen) (hc : c.length ≤ maxLen) (hB : B ≤ w.heap.size) (hS : SL w B A o) (hS' : SL w B A' c) :
    Calls Try.prog 16 #[.agg #[.slice A o.length n, .slice A' c.length n']] w fun e w' => e = .returned (.bool (weekB o c)) ∧ Below w.heap.size w w' := by
  have hb0 := fun o => balloc w o
  have HS := Lib.hid hS; clear hS
  have HS' := Lib.hid hS'; clear hS'
  have H0 := Lib.hid hb0; clear hb0
  cases hx : spansB o 168
  · have Hx := Lib.hid hx; clear hx
    go_enter Try.func16, Try.ntmps16
    go_wp2_with fail
    refine (spansI_any _ B A n o 168 ho (by simp; omega) (HS.out.later hB (H0.out _))).mono ?_
    rintro e w1 ⟨rfl, hb1⟩
    rw [Hx.out]
    go_wp2_with fail
    go_ret
    exact ⟨ret_bool (week_no _ _ Hx.out).symm, bthen (H0.out _) hb1⟩
  · have Hx := Lib.hid hx; clear hx
    go_enter Try.func16, Try.ntmps16
    go_wp2_with fail
    refine (spansI_any _ B A n o 168 ho (by simp; omega) (HS.out.later hB (H0.out _))).mono ?_
    rintro e w1 ⟨rfl, hb1⟩
    rw [Hx.out]
    have hbx := bthen (H0.out _) hb1
    have hold := bold hb1
    go_wp2_with fail
    clear hold
    refine (spansI_any _ B A' n' c 20000 hc (by have := hbx.size; omega) (HS'.out.later hB hbx)).mono ?_
    rintro e w2 ⟨rfl, hb2⟩
    go_wp2_with fail
    go_ret
    exact ⟨ret_bool (week_yes _ _ Hx.out).symm, bthen hbx hb2⟩

set_option maxHeartbeats 400000 in
theorem weekS_any (w : World) (B : Nat) (A A' : Option Addr) (n n' : Nat) (o c : List (Int × Int)) (ho : o.length ≤ maxLen) (hc : c.length ≤ maxLen) (hB : B ≤ w.heap.size) (hS : SL w B A o) (hS' : SL w B A' c) :
    Calls Try.prog 18 #[.agg #[.slice A o.length n, .slice A' c.length n']] w fun e w' => e = .returned (.bool (weekB o c)) ∧ Below w.heap.size w w' := by
  have hb0 := fun o => balloc w o
  have HS := Lib.hid hS; clear hS
  have HS' := Lib.hid hS'; clear hS'
  have H0 := Lib.hid hb0; clear hb0
  cases hx : spansB o 168
  · have Hx := Lib.hid hx; clear hx
    go_enter Try.func18, Try.ntmps18
    go_wp2_with fail
    refine (spansS_any _ B A n o 168 ho (by simp; omega) (HS.out.later hB (H0.out _))).mono ?_
    rintro e w1 ⟨rfl, hb1⟩
    rw [Hx.out]
    go_wp2_with fail
    go_ret
    exact ⟨ret_bool (week_no _ _ Hx.out).symm, bthen (H0.out _) hb1⟩
  · have Hx := Lib.hid hx; clear hx
    go_enter Try.func18, Try.ntmps18
    go_wp2_with fail
    refine (spansS_any _ B A n o 168 ho (by simp; omega) (HS.out.later hB (H0.out _))).mono ?_
    rintro e w1 ⟨rfl, hb1⟩
    rw [Hx.out]
    have hbx := bthen (H0.out _) hb1
    have hold := bold hb1
    go_wp2_with fail
    clear hold
    refine (spansS_any _ B A' n' c 20000 hc (by have := hbx.size; omega) (HS'.out.later hB hbx)).mono ?_
    rintro e w2 ⟨rfl, hb2⟩
    go_wp2_with fail
    go_ret
    exact ⟨ret_bool (week_yes _ _ Hx.out).symm, bthen hbx hb2⟩

set_option maxHeartbeats 400000 in
theorem openI_any (w : World) (B : Nat) (A A' : Option Addr) (n n' : Nat) (o c : List (Int × Int)) (h : Int) (h0 : 0 ≤ h) (ho : o.length ≤ maxLen) (hc : c.length ≤ maxLen) (hB : B ≤ w.heap.size) (hS : SL w B A o) (hS' : SL w B A' c) (hw : weekB o c = true) :
    Calls Try.prog 39 #[.agg #[.slice A o.length n, .slice A' c.length n'], .int .i64 h] w fun e w' => e = .returned (.bool (openB o c h)) ∧ Below w.heap.size w w' := by
  have hb0 := fun o => balloc w o
  have HS := Lib.hid hS; clear hS
  have HS' := Lib.hid hS'; clear hS'
  have H0 := Lib.hid hb0; clear hb0
  have hwo := week_open hw
  have hwf1 := first_within o 168 (h % 168) hwo.1
  have hwf2 := first_within c 20000 h hwo.2
  have Hf1 := Lib.hid hwf1
  have Hf2 := Lib.hid hwf2
  clear hw hwo hwf1 hwf2
  cases hx : withinB o (h % 168)
  · have Hx := Lib.hid hx; clear hx
    go_enter Try.func39, Try.ntmps39
    go_wp2_with fail
    refine (first_any _ B A n o (h % 168) ho (by simp; omega) (HS.out.later hB (H0.out _))).mono ?_
    rintro e w1 ⟨rfl, hb1⟩
    rw [Hf1.out]
    rw [Hx.out]
    go_wp2_with fail
    go_ret
    exact ⟨ret_bool (open_no _ _ _ Hx.out).symm, bthen (H0.out _) hb1⟩
  · have Hx := Lib.hid hx; clear hx
    go_enter Try.func39, Try.ntmps39
    go_wp2_with fail
    refine (first_any _ B A n o (h % 168) ho (by simp; omega) (HS.out.later hB (H0.out _))).mono ?_
    rintro e w1 ⟨rfl, hb1⟩
    rw [Hf1.out]
    rw [Hx.out]
    have hbx := bthen (H0.out _) hb1
    have hold := bold hb1
    go_wp2_with fail
    clear hold
    refine (first_any _ B A' n' c h hc (by have := hbx.size; omega) (HS'.out.later hB hbx)).mono ?_
    rintro e w2 ⟨rfl, hb2⟩
    rw [Hf2.out]
    go_wp2_with fail
    go_ret
    exact ⟨ret_bool (open_yes _ _ _ Hx.out).symm, bthen hbx hb2⟩

set_option maxHeartbeats 400000 in
theorem openS_any (w : World) (B : Nat) (A A' : Option Addr) (n n' : Nat) (o c : List (Int × Int)) (h : Int) (h0 : 0 ≤ h) (ho : o.length ≤ maxLen) (hc : c.length ≤ maxLen) (hB : B ≤ w.heap.size) (hS : SL w B A o) (hS' : SL w B A' c) :
    Calls Try.prog 41 #[.agg #[.slice A o.length n, .slice A' c.length n'], .int .i64 h] w fun e w' => e = .returned (.bool (openB o c h)) ∧ Below w.heap.size w w' := by
  have hb0 := fun o => balloc w o
  have HS := Lib.hid hS; clear hS
  have HS' := Lib.hid hS'; clear hS'
  have H0 := Lib.hid hb0; clear hb0
  cases hx : withinB o (h % 168)
  · have Hx := Lib.hid hx; clear hx
    go_enter Try.func41, Try.ntmps41
    go_wp2_with fail
    refine (within_any _ B A n o (h % 168) ho (HS.out.later hB (H0.out _))).mono ?_
    rintro e w1 ⟨rfl, rfl⟩
    rw [Hx.out]
    go_wp2_with fail
    go_ret
    exact ⟨ret_bool (open_no _ _ _ Hx.out).symm, H0.out _⟩
  · have Hx := Lib.hid hx; clear hx
    go_enter Try.func41, Try.ntmps41
    go_wp2_with fail
    refine (within_any _ B A n o (h % 168) ho (HS.out.later hB (H0.out _))).mono ?_
    rintro e w1 ⟨rfl, rfl⟩
    rw [Hx.out]
    go_wp2_with fail
    refine (within_any _ B A' n' c h hc (HS'.out.later hB (H0.out _))).mono ?_
    rintro e w2 ⟨rfl, rfl⟩
    go_wp2_with fail
    go_ret
    exact ⟨ret_bool (open_yes _ _ _ Hx.out).symm, H0.out _⟩

theorem isTime_any (w : World) (h : Int) : Calls Try.prog 22 #[.int .i64 h] w fun e w' => e = .returned (.bool (timeB h)) ∧ w' = w := by
  by_cases h0 : 0 ≤ h
  · by_cases h1 : h ≤ 20000
    · go_enter Try.func22, Try.ntmps22
      go_wp2
      go_ret
      exact ⟨ret_bool (by simp [timeB, h0, h1]), rfl⟩
    · go_enter Try.func22, Try.ntmps22
      go_wp2
      go_ret
      exact ⟨ret_bool (by simp [timeB]; omega), rfl⟩
  · go_enter Try.func22, Try.ntmps22
    go_wp2
    go_ret
    exact ⟨ret_bool (by simp [timeB]; omega), rfl⟩
theorem in_any (w : World) (x a b : Int) : Calls Try.prog 34 #[.int .i64 x, .int .i64 a, .int .i64 b] w fun e w' => e = .returned (.bool (inB x a b)) ∧ w' = w := by
  by_cases h0 : a ≤ x
  · by_cases h1 : x ≤ b
    · go_enter Try.func34, Try.ntmps34
      go_wp2
      go_ret
      exact ⟨ret_bool (by simp [inB, h0, h1]), rfl⟩
    · go_enter Try.func34, Try.ntmps34
      go_wp2
      go_ret
      exact ⟨ret_bool (by simp [inB]; omega), rfl⟩
  · go_enter Try.func34, Try.ntmps34
    go_wp2
    go_ret
    exact ⟨ret_bool (by simp [inB]; omega), rfl⟩
end Go.Proofs.Ytfkhhefphbhppaa
