/- Chapter 8: FormatEvent of the model (gen_fme.py). -/
import Derived.Test.YtgmdplhaofhliaaDoorFmS1
import Derived.Test.YtgmdplhaofhliaaDoorFmS2
import Derived.Test.YtgmdplhaofhliaaDoorFmS3
import Derived.Test.YtgmdplhaofhliaaDoorFmS4
namespace Go.Proofs.YtgmdplhaofhliaaDoor
open Go.RowKit
set_option linter.unusedVariables false
theorem fmeS_any (w : World) (x0 x1 x2 x3 x4 x5 x6 : Int) : Calls Tryd.prog 12 #[.agg #[.int .i64 x0, .int .i64 x1, .int .i64 x2, .int .i64 x3, .int .i64 x4, .int .i64 x5, .int .i64 x6]] w fun e w' => e = .returned (.string (fmE ⟨x0, x1, x2, x3, x4, x5, x6⟩)) ∧ Below w.heap.size w w' := by
  cases he : evB ⟨x0, x1, x2, x3, x4, x5, x6⟩
  · exact fmeS_bad w x0 x1 x2 x3 x4 x5 x6 he
  · have hev := (evB_facts he).2.2.2.1; dsimp only at hev
    have hc : x3 = 1 ∨ x3 = 2 ∨ x3 = 3 ∨ x3 = 4 := by omega
    rcases hc with rfl | rfl | rfl | rfl
    · exact fmeS_k1 w x0 x1 x2 x4 x5 x6 he
    · exact fmeS_k2 w x0 x1 x2 x4 x5 x6 he
    · exact fmeS_k3 w x0 x1 x2 x4 x5 x6 he
    · exact fmeS_k4 w x0 x1 x2 x4 x5 x6 he
end Go.Proofs.YtgmdplhaofhliaaDoor
