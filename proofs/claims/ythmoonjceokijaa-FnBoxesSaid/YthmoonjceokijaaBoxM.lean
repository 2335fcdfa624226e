/- Chapter 2: marking the cells of slices of numbers and of boxes, and reading the marks. -/
import Derived.Test.YthmoonjceokijaaBoxI
namespace Go.Proofs.Ythmoonjceokijaa
open Go.RowKit
set_option linter.unusedVariables false

theorem intV_nil {l : List Int} (h : intV l = []) : l = [] := by simpa [intV] using h
theorem boxV_nil {l : List Bx} (h : boxV l = []) : l = [] := by
  have := congrArg List.length h
  rw [boxV_len] at this
  exact List.eq_nil_of_length_eq_zero (by simp only [List.length_nil] at this; omega)
theorem intV_of {l : List Int} {cs : Array Value} (h : ∀ j x, j < l.length → l[j]? = some x → cs[j]? = some (.int .i64 x)) : ∀ (j : Nat) (u : Value), (intV l)[j]? = some u → cs[j]? = some u := by
  intro j u hu
  have hj : j < l.length := by have := (List.getElem?_eq_some_iff.1 hu).1; rwa [intV_len] at this
  have hx := List.getElem?_eq_getElem hj
  rw [intV_at hx] at hu
  rw [← hu]; exact h j _ hj hx

end Go.Proofs.Ythmoonjceokijaa
