/- Chapter 1: weeks: contracts of IsOpen and of the laws' helpers over weeks. -/
import Derived.Test.YtfkhhefphbhppaaWeekB
import Derived.Test.YtfkhhefphbhppaaSpanE
namespace Go.Proofs.Ytfkhhefphbhppaa
open Go.RowKit
set_option linter.unusedVariables false

def szW (left : Int) (n n' : Nat) : Int := if left < n then -1 else szI (left - n) n'
end Go.Proofs.Ytfkhhefphbhppaa
