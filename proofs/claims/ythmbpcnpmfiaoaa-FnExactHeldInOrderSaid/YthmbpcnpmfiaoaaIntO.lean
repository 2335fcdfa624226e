/- What an argument's reading gives: a slice of numbers. -/
import Derived.Test.YthmbpcnpmfiaoaaColO
namespace Go.Proofs.Ythmbpcnpmfiaoaa
open Go.RowKit Go.ChangeShapes Go.WideShapes Go.Deep Go.Joins
set_option linter.unusedVariables false
section
variable {H : Type} {enc : TypeId × Value → H} {P : Program} {w : World} {base : Nat} {spare : Nat → Bool} {held : Bool}
theorem open_intl_arg {r : Reach} {b0 : Nat} {t e : TypeId} {v : Value} {d : DataW H} {p : List MemPlace} (ht : P.underlying t = some (.slice e)) (he : P.underlying e = some (.int .i64)) (hC : P.cellsOf e = 1)
    (hv : Value.okWide P w r b0 t v) (h : DataW.Trod enc P w base spare held t v d p) :
    ∃ (A : Option Addr) (c : Nat) (l : List Int), v = .slice A l.length c ∧ l.length ≤ maxLen ∧ IL w w.heap.size A l := by
  obtain ⟨a, len, cap, rfl⟩ := okWide_slice ht hv
  obtain ⟨fuel, hf⟩ := h
  obtain ⟨A, c, l, e1, hl, hS⟩ := open_intsC ht he hC hf
  simp only [Value.cells, List.cons.injEq, and_true] at e1
  exact ⟨A, c, l, e1, hl, hS⟩
end
end Go.Proofs.Ythmbpcnpmfiaoaa
