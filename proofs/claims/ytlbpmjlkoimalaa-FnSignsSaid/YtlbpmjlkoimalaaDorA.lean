/- Chapter 4: contracts of the functions over doors that answer a flag, a number or a name. -/
import Derived.Test.YtlbpmjlkoimalaaDorP
import Derived.Deep.QuietTactic
import Derived.BigQuiet
import Derived.Deep.RegionHeld3
namespace Go.Proofs.Ytlbpmjlkoimalaa
open Go.RowKit
set_option linter.unusedVariables false

set_option maxRecDepth 100000 in
set_option maxHeartbeats 1000000 in
theorem inR_any (w : World) (x a b : Int) : Calls Try.prog 20 #[.int .i64 x, .int .i64 a, .int .i64 b] w fun e w' => e = .returned (.bool (inR x a b)) ∧ w' = w := by
  go_enter Try.func20, Try.ntmps20
  go_wp2
  all_goals (go_ret; exact ⟨rbool (by simp_all [inR] <;> omega), rfl⟩)
set_option maxRecDepth 100000 in
set_option maxHeartbeats 1000000 in
theorem kindI_any (w : World) (k : Int) : Calls Try.prog 28 #[.int .i64 k] w fun e w' => e = .returned (.bool (kindB k)) ∧ w' = w := by
  go_enter Try.func28, Try.ntmps28
  go_wp2
  all_goals (go_ret; exact ⟨rbool (by simp_all [kindB]), rfl⟩)
set_option maxRecDepth 100000 in
set_option maxHeartbeats 1000000 in
theorem doneI_any (w : World) (k : Int) (f : Bool) : Calls Try.prog 34 #[.int .i64 k, .bool f] w fun e w' => e = .returned (.bool (doneB k f)) ∧ w' = w := by
  go_enter Try.func34, Try.ntmps34
  go_wp2
  all_goals (go_ret; exact ⟨rbool (by rw [doneB]; congr 1), rfl⟩)
set_option maxRecDepth 100000 in
set_option maxHeartbeats 1000000 in
theorem befS_any (w : World) (k s : Int) (l o f : Bool) : Calls Try.prog 30 #[.agg #[.int .i64 k, .int .i64 s, .bool l, .bool o, .bool f]] w fun e w' => e = .returned (.bool (befB k f)) ∧ Below w.heap.size w w' := by
  go_enter Try.func30, Try.ntmps30
  go_wp2
  all_goals (go_ret; exact ⟨rbool (by rw [befB]; congr 1), balloc _ _⟩)
set_option maxRecDepth 100000 in
set_option maxHeartbeats 1000000 in
theorem fitI_any (w : World) (k s : Int) (l o f : Bool) : Calls Try.prog 29 #[.agg #[.int .i64 k, .int .i64 s, .bool l, .bool o, .bool f]] w fun e w' => e = .returned (.bool (fitB k s l o f)) ∧ Below w.heap.size w w' := by
  go_enter Try.func29, Try.ntmps29
  go_wp2_with fail
  refine (doneI_any _ k f).mono ?_
  rintro e w1 ⟨rfl, hw⟩
  rw [hw]; clear hw
  generalize hq : doneB k f = q
  go_wp2_with fail
  all_goals (go_ret; exact ⟨rbool (by simp_all [fitB]), balloc _ _⟩)
set_option maxRecDepth 100000 in
set_option maxHeartbeats 1000000 in
theorem doorI_any (w : World) (k s : Int) (l o f : Bool) : Calls Try.prog 15 #[.agg #[.int .i64 k, .int .i64 s, .bool l, .bool o, .bool f]] w fun e w' => e = .returned (.bool (doorB k s l o f)) ∧ Below w.heap.size w w' := by
  generalize hY : kindB k = Y
  have HY := Lib.hid hY; clear hY
  go_enter Try.func15, Try.ntmps15
  go_wp2_with (first
    | (go_at_call 28; refine (kindI_any _ _).mono ?_; rintro e w1 ⟨rfl, hw⟩; rw [hw, HY.out]; clear hw)
    | (go_at_call 29; refine (fitI_any _ _ _ _ _ _).mono ?_; rintro e w1 ⟨rfl, hb⟩))
  all_goals (go_ret; first | exact ⟨rbool (by have hY := HY.out; clear HY; simp_all [doorB]), balloc _ _⟩ | exact ⟨rbool (by have hY := HY.out; clear HY; simp_all [doorB]), bthen (balloc _ _) hb⟩)
end Go.Proofs.Ytlbpmjlkoimalaa
