/- Chapter 5: the drawing of grants. -/
import Derived.Test.YtphdmpjmhocfhaaGrG
namespace Go.Proofs.Ytphdmpjmhocfhaa
open Go.RowKit
set_option linter.unusedVariables false
/-- a list of grants and four numbers -/
def DFour (w : World) (e : Ending) (w' : World) : Prop :=
  ∃ (A : Option Addr) (c : Nat) (l : List Gr) (o q p t : Int), e = .returned (.tuple #[.slice A l.length c, .int .i64 o, .int .i64 q, .int .i64 p, .int .i64 t]) ∧ l.length ≤ 31 ∧ (-1 ≤ o ∧ o ≤ 41) ∧ (-1 ≤ q ∧ q ≤ 41) ∧ (0 ≤ p ∧ p ≤ 1000) ∧ (-1 ≤ t ∧ t ≤ 20001) ∧ OR w' w.heap.size 29 A (grV l) ∧ Below w.heap.size w w'
end Go.Proofs.Ytphdmpjmhocfhaa
