/- Chapter 5: contracts of the functions that ask whether a grant is valid or applies, both sides (gen_gra.py). -/
import Derived.Test.YtdcejkompdbliaaDoorGraR
namespace Go.Proofs.YtdcejkompdbliaaDoor
open Go.RowKit
set_option linter.unusedVariables false

set_option maxHeartbeats 1000000 in
theorem inR_any (w : World) (x a b : Int) : Calls Tryd.prog 37 #[.int .i64 x, .int .i64 a, .int .i64 b] w fun e w' => e = .returned (.bool (inR x a b)) ∧ w' = w := by
  go_enter Tryd.func37, Tryd.ntmps37
  go_wp2
  all_goals (go_ret; exact ⟨rbool (by simp_all [inR] <;> omega), rfl⟩)
set_option maxHeartbeats 1000000 in
theorem timI_any (w : World) (x : Int) : Calls Tryd.prog 40 #[.int .i64 x] w fun e w' => e = .returned (.bool (timB x)) ∧ w' = w := by
  go_enter Tryd.func40, Tryd.ntmps40
  go_wp2
  all_goals (go_ret; exact ⟨rbool (by simp_all [timB, inR] <;> omega), rfl⟩)
set_option maxHeartbeats 1000000 in
theorem parI_any (w : World) (x : Int) : Calls Tryd.prog 39 #[.int .i64 x] w fun e w' => e = .returned (.bool (inR x 1 999)) ∧ w' = w := by
  go_enter Tryd.func39, Tryd.ntmps39
  go_wp2
  all_goals (go_ret; exact ⟨rbool (by simp_all [inR] <;> omega), rfl⟩)
end Go.Proofs.YtdcejkompdbliaaDoor
