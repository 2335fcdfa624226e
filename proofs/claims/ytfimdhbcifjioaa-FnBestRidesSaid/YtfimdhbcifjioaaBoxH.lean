/- Chapter 2: contracts of the laws' own helpers over numbers and boxes: sizes, copies, comparisons, marks. -/
import Derived.Test.YtfimdhbcifjioaaBoxO
import Derived.Test.YtfimdhbcifjioaaRet
import Derived.StillTailTactics
namespace Go.Proofs.Ytfimdhbcifjioaa
open Go.RowKit
set_option linter.unusedVariables false

theorem ret_eq {a b : Value} (h : a = b) : Ending.returned a = .returned b := by rw [h]
/-- the size of a column: -1 if it is above what is left -/
def szC (left : Int) (n m : Nat) : Int := if left < n + m then -1 else left - n - m
theorem intInfo : (Try.prog.info? 3).map (fun i => (i.zero, i.size, i.bytes)) = some (some (.int .i64 0), 1, 8) := by kernel_rfl
end Go.Proofs.Ytfimdhbcifjioaa
