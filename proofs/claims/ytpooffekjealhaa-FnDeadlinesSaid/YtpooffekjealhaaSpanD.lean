/- Chapter 1: contracts of the law's own helpers over spans: the size, the copy, the comparison. -/
import Derived.Test.YtpooffekjealhaaSpanA
import Derived.Laws.MakeOwn
namespace Go.Proofs.Ytpooffekjealhaa
open Go.RowKit
set_option linter.unusedVariables false

end Go.Proofs.Ytpooffekjealhaa
