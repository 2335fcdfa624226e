/- What every chapter's texts share: endings, and the measure of the laws' sizes. -/
import Derived.Test.YthmoonjceokijaaChecked
import Derived.WalkKit
namespace Go.Proofs.Ythmoonjceokijaa
set_option linter.unusedVariables false
theorem ret_bool {a b : Bool} (h : a = b) : Ending.returned (.bool a) = .returned (.bool b) := by rw [h]
theorem ret_int {k : IntKind} {a b : Int} (h : a = b) : Ending.returned (.int k a) = .returned (.int k b) := by rw [h]
def szI (left : Int) (n : Nat) : Int := if left < n then -1 else left - n
end Go.Proofs.Ythmoonjceokijaa
