/- Chapter 1: the walks of the exact laws over weeks, over the contracts of what they call. -/
import Derived.Test.YthdncneahdiieaaWeekD
import Derived.Test.YthdncneahdiieaaOpen
import Derived.Deep.RegionHeld3
import Derived.Deep.DeepMust
namespace Go.Proofs.Ythdncneahdiieaa
open Go.RowKit Go.ChangeShapes Go.WideShapes Go.Deep Go.Joins
set_option linter.unusedVariables false

section
variable {H : Type} {enc : TypeId × Value → H} {P : Program} {w : World} {base : Nat} {spare : Nat → Bool} {held : Bool}
theorem open_week_arg {r : Reach} {b0 : Nat} {tw : TypeId} {g0 g1 : Field} {t e : TypeId} {f0 f1 : Field} {v : Value} {d : DataW H} {p : List MemPlace} (hs : P.underlying tw = some (.struct #[g0, g1])) (honew : oneCellFields P #[g0, g1] = true) (hCw : P.cellsOf tw = 2)
    (hg0 : g0.type = t) (hg1 : g1.type = t) (ht : P.underlying t = some (.slice e)) (he : P.underlying e = some (.struct #[f0, f1])) (hone : oneCellFields P #[f0, f1] = true) (hC : P.cellsOf e = 2)
    (h0 : P.underlying f0.type = some (.int .i64)) (h1 : P.underlying f1.type = some (.int .i64)) (hv : Value.okWide P w r b0 tw v) (h : DataW.Trod enc P w base spare held tw v d p) :
    ∃ (A A' : Option Addr) (n n' : Nat) (o c : List (Int × Int)), v = .agg #[.slice A o.length n, .slice A' c.length n'] ∧ o.length ≤ maxLen ∧ c.length ≤ maxLen ∧ SL w w.heap.size A o ∧ SL w w.heap.size A' c := by
  obtain ⟨v0, v1, y0, y1, n, rfl, _, _, t0, t1⟩ := open_agg2 hs honew hCw hv h
  rw [hg0] at t0
  rw [hg1] at t1
  obtain ⟨A, m, o, e0, l0, S0⟩ := open_pairs ht he hone hC h0 h1 t0
  obtain ⟨A', m', c, e1, l1, S1⟩ := open_pairs ht he hone hC h0 h1 t1
  simp only [List.cons.injEq, and_true] at e0 e1
  subst e0 e1
  exact ⟨A, A', m, m', o, c, rfl, l0, l1, S0, S1⟩
end
theorem eq_ne {a b : Bool} (h : a = b) : (a != b) = false := by subst h; simp


end Go.Proofs.Ythdncneahdiieaa
