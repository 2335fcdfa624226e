/- Chapter 5: the drawing of grants. -/
import Derived.Test.YtphdmpjmhocfhaaGrF
namespace Go.Proofs.Ytphdmpjmhocfhaa
open Go.RowKit
set_option linter.unusedVariables false
def lenG : Value → Nat
  | .slice _ n _ => n
  | _ => 0
end Go.Proofs.Ytphdmpjmhocfhaa
