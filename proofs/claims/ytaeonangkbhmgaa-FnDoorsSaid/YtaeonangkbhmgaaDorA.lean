/- Chapter 4: contracts of the functions over doors that answer a flag, a number or a name. -/
import Derived.Test.YtaeonangkbhmgaaDorP
import Derived.Deep.QuietTactic
import Derived.BigQuiet
import Derived.Deep.RegionHeld3
namespace Go.Proofs.Ytaeonangkbhmgaa
open Go.RowKit
set_option linter.unusedVariables false

set_option maxRecDepth 100000 in
set_option maxHeartbeats 1000000 in
theorem inR_any (w : World) (x a b : Int) : Calls Try.prog 43 #[.int .i64 x, .int .i64 a, .int .i64 b] w fun e w' => e = .returned (.bool (inR x a b)) ∧ w' = w := by
  go_enter Try.func43, Try.ntmps43
  go_wp2
  all_goals (go_ret; exact ⟨rbool (by simp_all [inR] <;> omega), rfl⟩)
set_option maxRecDepth 100000 in
set_option maxHeartbeats 1000000 in
theorem kindI_any (w : World) (k : Int) : Calls Try.prog 35 #[.int .i64 k] w fun e w' => e = .returned (.bool (kindB k)) ∧ w' = w := by
  go_enter Try.func35, Try.ntmps35
  go_wp2
  all_goals (go_ret; exact ⟨rbool (by simp_all [kindB]), rfl⟩)
set_option maxRecDepth 100000 in
set_option maxHeartbeats 1000000 in
theorem doneI_any (w : World) (k : Int) (f : Bool) : Calls Try.prog 36 #[.int .i64 k, .bool f] w fun e w' => e = .returned (.bool (doneB k f)) ∧ w' = w := by
  go_enter Try.func36, Try.ntmps36
  go_wp2
  all_goals (go_ret; exact ⟨rbool (by rw [doneB]; congr 1), rfl⟩)
set_option maxRecDepth 100000 in
set_option maxHeartbeats 1000000 in
theorem befS_any (w : World) (k s : Int) (l o f : Bool) : Calls Try.prog 45 #[.agg #[.int .i64 k, .int .i64 s, .bool l, .bool o, .bool f]] w fun e w' => e = .returned (.bool (befB k f)) ∧ Below w.heap.size w w' := by
  go_enter Try.func45, Try.ntmps45
  go_wp2
  all_goals (go_ret; exact ⟨rbool (by rw [befB]; congr 1), balloc _ _⟩)
set_option maxRecDepth 100000 in
set_option maxHeartbeats 1000000 in
theorem fitI_any (w : World) (k s : Int) (l o f : Bool) : Calls Try.prog 37 #[.agg #[.int .i64 k, .int .i64 s, .bool l, .bool o, .bool f]] w fun e w' => e = .returned (.bool (fitB k s l o f)) ∧ Below w.heap.size w w' := by
  go_enter Try.func37, Try.ntmps37
  go_wp2_with fail
  refine (doneI_any _ k f).mono ?_
  rintro e w1 ⟨rfl, hw⟩
  rw [hw]; clear hw
  generalize hq : doneB k f = q
  go_wp2_with fail
  all_goals (go_ret; exact ⟨rbool (by simp_all [fitB]), balloc _ _⟩)
set_option maxRecDepth 100000 in
set_option maxHeartbeats 1000000 in
theorem doorI_any (w : World) (k s : Int) (l o f : Bool) : Calls Try.prog 12 #[.agg #[.int .i64 k, .int .i64 s, .bool l, .bool o, .bool f]] w fun e w' => e = .returned (.bool (doorB k s l o f)) ∧ Below w.heap.size w w' := by
  generalize hY : kindB k = Y
  have HY := Lib.hid hY; clear hY
  go_enter Try.func12, Try.ntmps12
  go_wp2_with (first
    | (go_at_call 35; refine (kindI_any _ _).mono ?_; rintro e w1 ⟨rfl, hw⟩; rw [hw, HY.out]; clear hw)
    | (go_at_call 37; refine (fitI_any _ _ _ _ _ _).mono ?_; rintro e w1 ⟨rfl, hb⟩))
  all_goals (go_ret; first | exact ⟨rbool (by have hY := HY.out; clear HY; simp_all [doorB]), balloc _ _⟩ | exact ⟨rbool (by have hY := HY.out; clear HY; simp_all [doorB]), bthen (balloc _ _) hb⟩)
end Go.Proofs.Ytaeonangkbhmgaa
