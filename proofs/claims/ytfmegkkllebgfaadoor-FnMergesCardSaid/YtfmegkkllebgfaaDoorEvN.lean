/- Chapter 8: contracts of the step of a fate, both sides (gen_evn.py). -/
import Derived.Test.YtfmegkkllebgfaaDoorEvQ
namespace Go.Proofs.YtfmegkkllebgfaaDoor
open Go.RowKit
set_option linter.unusedVariables false

end Go.Proofs.YtfmegkkllebgfaaDoor
