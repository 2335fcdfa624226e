/- Chapter 2: the walk of the law FnExactBankOk. -/
import Derived.Test.YtpoiebebnpelhaaBnkB
namespace Go.Proofs.Ytpoiebebnpelhaa
open Go.RowKit
set_option linter.unusedVariables false

theorem rows_cv {w : World} {base : Nat} {l l' : List Cl} (hc : l'.map cont = l.map cont) (hs : SmallK l) (h : ∀ x ∈ l', RowsK w base x) : ∀ x ∈ l', CV w w.heap.size x := fun x hx => by
  have := small_cont hc hs x hx
  exact (h x hx).cv (by unfold maxLen; omega) (by unfold maxLen; omega)

end Go.Proofs.Ytpoiebebnpelhaa
