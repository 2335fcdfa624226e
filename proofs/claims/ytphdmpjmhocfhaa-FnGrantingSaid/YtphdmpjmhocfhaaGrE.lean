/- Chapter 5: the drawing of grants. -/
import Derived.Test.YtphdmpjmhocfhaaGrD
namespace Go.Proofs.Ytphdmpjmhocfhaa
open Go.RowKit
set_option linter.unusedVariables false
end Go.Proofs.Ytphdmpjmhocfhaa
