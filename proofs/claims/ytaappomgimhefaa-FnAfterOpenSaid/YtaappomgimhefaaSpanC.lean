/- Chapter 1: contract of the model's SpansOk. -/
import Derived.Test.YtaappomgimhefaaSpanB
namespace Go.Proofs.Ytaappomgimhefaa
open Go.RowKit
set_option linter.unusedVariables false
end Go.Proofs.Ytaappomgimhefaa
