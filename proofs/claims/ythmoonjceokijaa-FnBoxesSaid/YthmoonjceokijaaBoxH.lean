/- Chapter 2: contracts of the laws' own helpers over numbers and boxes: sizes, copies, comparisons, marks. -/
import Derived.Test.YthmoonjceokijaaBoxO
import Derived.Test.YthmoonjceokijaaRet
import Derived.StillTailTactics
namespace Go.Proofs.Ythmoonjceokijaa
open Go.RowKit
set_option linter.unusedVariables false

theorem ret_eq {a b : Value} (h : a = b) : Ending.returned a = .returned b := by rw [h]
/-- the size of a column: -1 if it is above what is left -/
def szC (left : Int) (n m : Nat) : Int := if left < n + m then -1 else left - n - m
theorem intInfo : (Try.prog.info? 3).map (fun i => (i.zero, i.size, i.bytes)) = some (some (.int .i64 0), 1, 8) := by kernel_rfl
theorem boxInfo : (Try.prog.info? 47).map (fun i => (i.zero, i.size, i.bytes)) = some (some (.agg #[.int .i64 0, .int .i64 0, .int .i64 0, .bool false]), 4, 32) := by kernel_rfl

end Go.Proofs.Ythmoonjceokijaa
