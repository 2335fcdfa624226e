/- Chapter 4: the contract of the model's DoorOk. -/
import Derived.Test.YtaeonangkbhmgaaDorA
namespace Go.Proofs.Ytaeonangkbhmgaa
open Go.RowKit
set_option linter.unusedVariables false
set_option maxRecDepth 100000 in
set_option maxHeartbeats 2000000 in
theorem doorS_any (w : World) (k s : Int) (l o f : Bool) : Calls Try.prog 18 #[.agg #[.int .i64 k, .int .i64 s, .bool l, .bool o, .bool f]] w fun e w' => e = .returned (.bool (doorB k s l o f)) ∧ Below w.heap.size w w' := by
  go_enter Try.func18, Try.ntmps18
  go_wp2_with (first
    | (go_at_call 43; refine (inR_any _ _ _ _).mono ?_; rintro e w1 ⟨rfl, hw⟩; rw [hw]; clear hw)
    | (go_at_call 45; refine (befS_any _ _ _ _ _ _).mono ?_; rintro e w1 ⟨rfl, hb⟩; have m := has_call (has_new w _ _) hb; have e0 := has_cell m 0 rfl; have e1 := has_cell m 1 rfl; have e2 := has_cell m 2 rfl; have e3 := has_cell m 3 rfl; have e4 := has_cell m 4 rfl; have lt := has_lt m; have HM := Lib.hid hb; clear hb m))
  all_goals (go_ret; first
    | exact ⟨rbool (by rw [doorB_alt]; simp_all [doorB2]), balloc _ _⟩
    | exact ⟨rbool (by clear HM; rw [doorB_alt]; simp_all [doorB2]), bthen (balloc _ _) HM.out⟩)
end Go.Proofs.Ytaeonangkbhmgaa
