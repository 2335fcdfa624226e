/- Chapter 2: contracts of the laws' helpers over columns: the copy and the comparison. -/
import Derived.Test.YthmoonjceokijaaBoxM
namespace Go.Proofs.Ythmoonjceokijaa
open Go.RowKit
set_option linter.unusedVariables false

theorem OR.setlow {w : World} {base : Nat} {e : TypeId} {A : Option Addr} {xs : List Value} (h : OR w base e A xs) {p : Addr} (hp : p.block < base) (v : Value) : OR (w.setCell p v) base e A xs :=
  h.kept fun g hg _ => Below.heap_setCell w p v g (by omega)

end Go.Proofs.Ythmoonjceokijaa
