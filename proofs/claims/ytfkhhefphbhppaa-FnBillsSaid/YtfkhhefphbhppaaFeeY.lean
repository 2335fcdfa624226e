/- Chapter 6: contracts of TermsOk, DeadlineOf, FreeUntil, Overdue and CanExtend, by the program and by the model (gen_feea.py). -/
import Derived.Test.YtfkhhefphbhppaaFeeP
import Derived.Test.YtfkhhefphbhppaaOwn
namespace Go.Proofs.Ytfkhhefphbhppaa
open Go.RowKit
set_option linter.unusedVariables false
def freeB (o c : List (Int × Int)) (t : Tm) (a : Int) : Option Int := if termsB t = true then beforeB o c a t.free else none
theorem fbool {a b : Bool} (h : a = b) : Ending.returned (.bool a) = .returned (.bool b) := by rw [h]
theorem inB_eq (x a b : Int) : inB x a b = (decide (a ≤ x) && decide (x ≤ b)) := rfl

set_option maxRecDepth 100000 in
set_option maxHeartbeats 4000000 in
theorem termsI_any (w : World) (t : Tm) : Calls Try.prog 17 #[.agg #[.int .i64 t.keep, .int .i64 t.free, .int .i64 t.step, .int .i64 t.rate, .int .i64 t.cap, .int .i64 t.longer, .int .i64 t.price, .int .i64 t.most]] w fun e w' => e = .returned (.bool (termsB t)) ∧ Below w.heap.size w w' := by
  go_enter Try.func17, Try.ntmps17
  go_wp2
  all_goals
    go_ret
    refine ⟨fbool ?_, balloc _ _⟩
    cases hv : termsB t with
    | false => first | rfl | exact decide_eq_false (fun hm => by rw [(terms_iff t).2 (by omega)] at hv; cases hv)
    | true => first | exact decide_eq_true (by have := (terms_iff t).1 hv; omega) | (exfalso; have := (terms_iff t).1 hv; omega)
end Go.Proofs.Ytfkhhefphbhppaa
