/- Chapter 1: weeks: contracts of IsOpen and of the laws' helpers over weeks. -/
import Derived.Test.YtaappomgimhefaaWeekB
import Derived.Test.YtaappomgimhefaaSpanE
namespace Go.Proofs.Ytaappomgimhefaa
open Go.RowKit
set_option linter.unusedVariables false

set_option maxHeartbeats 400000 in
theorem isOpenI_any (w : World) (B : Nat) (A A' : Option Addr) (n n' : Nat) (o c : List (Int × Int)) (h : Int) (ho : o.length ≤ maxLen) (hc : c.length ≤ maxLen) (hB : B ≤ w.heap.size) (hS : SL w B A o) (hS' : SL w B A' c) :
    Calls Try.prog 16 #[.agg #[.slice A o.length n, .slice A' c.length n'], .int .i64 h] w fun e w' => e = .returned (.bool (isOpenB o c h)) ∧ Below w.heap.size w w' := by
  have hb0 := fun o => balloc w o
  have HS := Lib.hid hS; clear hS
  have HS' := Lib.hid hS'; clear hS'
  have H0 := Lib.hid hb0; clear hb0
  cases hx : weekB o c
  · have Hx := Lib.hid hx; clear hx
    go_enter Try.func16, Try.ntmps16
    go_wp2_with fail
    refine (weekI_any _ B A A' n n' o c ho hc (by simp; omega) (HS.out.later hB (H0.out _)) (HS'.out.later hB (H0.out _))).mono ?_
    rintro e w1 ⟨rfl, hb1⟩
    rw [Hx.out]
    go_wp2_with fail
    go_ret
    exact ⟨ret_bool (by simp [isOpenB, Hx.out]), bthen (H0.out _) hb1⟩
  have Hx := Lib.hid hx; clear hx
  by_cases hr : 0 ≤ h ∧ h ≤ 19999
  · have hin : inB h 0 19999 = true := by simp [inB, hr.1, hr.2]
    have Hin := Lib.hid hin; clear hin
    obtain ⟨h0, h1⟩ := hr
    go_enter Try.func16, Try.ntmps16
    go_wp2_with fail
    refine (weekI_any _ B A A' n n' o c ho hc (by simp; omega) (HS.out.later hB (H0.out _)) (HS'.out.later hB (H0.out _))).mono ?_
    rintro e w1 ⟨rfl, hb1⟩
    rw [Hx.out]
    have hbx := bthen (H0.out _) hb1
    have hold := bold hb1
    go_wp2_with fail
    clear hold
    refine (openI_any _ B A A' n n' o c h h0 ho hc (by have := hbx.size; omega) (HS.out.later hB hbx) (HS'.out.later hB hbx) Hx.out).mono ?_
    rintro e w3 ⟨rfl, hb3⟩
    go_wp2_with fail
    go_ret
    exact ⟨ret_bool (by simp [isOpenB, Hx.out, Hin.out]), bthen hbx hb3⟩
  · have hin : inB h 0 19999 = false := by simp [inB]; omega
    have Hin := Lib.hid hin; clear hin
    have go : ∀ (h0 : h < 0 ∨ (0 ≤ h ∧ 20000 ≤ h)), True := fun _ => trivial
    clear go
    by_cases h0 : 0 ≤ h
    · have h1 : 20000 ≤ h := by omega
      clear hr
      go_enter Try.func16, Try.ntmps16
      go_wp2_with fail
      refine (weekI_any _ B A A' n n' o c ho hc (by simp; omega) (HS.out.later hB (H0.out _)) (HS'.out.later hB (H0.out _))).mono ?_
      rintro e w1 ⟨rfl, hb1⟩
      rw [Hx.out]
      go_wp2_with fail
      go_ret
      exact ⟨ret_bool (by simp [isOpenB, Hin.out]), bthen (H0.out _) hb1⟩
    · clear hr
      go_enter Try.func16, Try.ntmps16
      go_wp2_with fail
      refine (weekI_any _ B A A' n n' o c ho hc (by simp; omega) (HS.out.later hB (H0.out _)) (HS'.out.later hB (H0.out _))).mono ?_
      rintro e w1 ⟨rfl, hb1⟩
      rw [Hx.out]
      go_wp2_with fail
      go_ret
      exact ⟨ret_bool (by simp [isOpenB, Hin.out]), bthen (H0.out _) hb1⟩

def szW (left : Int) (n n' : Nat) : Int := if left < n then -1 else szI (left - n) n'
end Go.Proofs.Ytaappomgimhefaa
