/- Chapter 1: contract of the program's DecodeHex. -/
import Derived.Test.YtlajniepjnhfcaaDoorHexD
import Derived.Deep.RegionHeld3
namespace Go.Proofs.YtlajniepjnhfcaaDoor
open Go.RowKit
set_option linter.unusedVariables false
theorem own_keep {w w' : World} {base : Nat} {e : TypeId} {size n : Nat} {v : Value} {xs : List Value} (h : w.ownsRow base e size v n xs) (hb : Below w.heap.size w w') : w'.ownsRow base e size v n xs :=
  h.kept (row := none) ⟨hb.os, hb.tape, hb.output, hb.size, fun k hk _ => hb.block k hk⟩ (by cases v.ownBlock <;> simp)

end Go.Proofs.YtlajniepjnhfcaaDoor
