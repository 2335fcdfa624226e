/- Chapter 1: contracts of the law's own helpers over spans: the size, the copy, the comparison. -/
import Derived.Test.YtaappomgimhefaaSpanA
import Derived.Laws.MakeOwn
namespace Go.Proofs.Ytaappomgimhefaa
open Go.RowKit
set_option linter.unusedVariables false

def szI (left : Int) (n : Nat) : Int := if left < n then -1 else left - n
theorem ret_int {k : IntKind} {a b : Int} (h : a = b) : Ending.returned (.int k a) = .returned (.int k b) := by rw [h]
end Go.Proofs.Ytaappomgimhefaa
