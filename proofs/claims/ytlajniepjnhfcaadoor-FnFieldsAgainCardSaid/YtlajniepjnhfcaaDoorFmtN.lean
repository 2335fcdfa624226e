/- Chapter 1: contract of the model's FormatInt, for every int. -/
import Derived.Test.YtlajniepjnhfcaaDoorFmt
namespace Go.Proofs.YtlajniepjnhfcaaDoor
open Go.RowKit
set_option linter.unusedVariables false

/-- the text of an int -/
def decZ (n : Int) : List Int := if n < 0 then 45 :: decN n.natAbs else decN n.natAbs

end Go.Proofs.YtlajniepjnhfcaaDoor
