/- Chapter 1: contracts of the law's own helpers over spans: the size, the copy, the comparison. -/
import Derived.Test.YtfkhhefphbhppaaSpanA
import Derived.Laws.MakeOwn
namespace Go.Proofs.Ytfkhhefphbhppaa
open Go.RowKit
set_option linter.unusedVariables false

end Go.Proofs.Ytfkhhefphbhppaa
