/- Chapter 8: contracts of the step of a fate, both sides (gen_evn.py). -/
import Derived.Test.YtdcejkompdbliaaDoorEvQ
namespace Go.Proofs.YtdcejkompdbliaaDoor
open Go.RowKit
set_option linter.unusedVariables false

end Go.Proofs.YtdcejkompdbliaaDoor
