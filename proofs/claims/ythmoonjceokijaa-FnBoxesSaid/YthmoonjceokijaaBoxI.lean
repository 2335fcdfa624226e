/- Chapter 2: contracts of the laws' own helpers over slices of boxes. -/
import Derived.Test.YthmoonjceokijaaBoxH
namespace Go.Proofs.Ythmoonjceokijaa
open Go.RowKit
set_option linter.unusedVariables false

/-- block g holds the first k boxes of the list, and has room for all of them -/
structure CopiedB (w : World) (g : Nat) (cs : Array Value) (l : List Bx) (k : Nat) : Prop where
  heap : Has w g 47 cs
  size : l.length * 4 ≤ cs.size
  got : ∀ j x, j < k → l[j]? = some x → cs[j * 4]? = some (.int .i64 x.low) ∧ cs[j * 4 + 1]? = some (.int .i64 x.size) ∧ cs[j * 4 + 2]? = some (.int .i64 x.par) ∧ cs[j * 4 + 3]? = some (.bool x.jam)
theorem CopiedB.below {w w' : World} {g : Nat} {cs : Array Value} {l : List Bx} {k : Nat} (h : CopiedB w g cs l k) (hb : Below w.heap.size w w') : CopiedB w' g cs l k := ⟨has_call h.heap hb, h.size, h.got⟩
theorem CopiedB.cellAt {w : World} {g : Nat} {cs : Array Value} {l : List Bx} {k j : Nat} (h : CopiedB w g cs l k) (hj : j < l.length * 4) : ∃ u, w.cell? ⟨g, j, none⟩ = some u :=
  ⟨cs[j]'(Nat.lt_of_lt_of_le hj h.size), has_cell h.heap j (Array.getElem?_eq_getElem _)⟩
theorem CopiedB.step {w : World} {g : Nat} {cs : Array Value} {l : List Bx} {k : Nat} (h : CopiedB w g cs l k) {x : Bx} (hx : l[k]? = some x) :
    CopiedB ((((w.setCell ⟨g, k * 4, none⟩ (.int .i64 x.low)).setCell ⟨g, k * 4 + 1, none⟩ (.int .i64 x.size)).setCell ⟨g, k * 4 + 2, none⟩ (.int .i64 x.par)).setCell ⟨g, k * 4 + 3, none⟩ (.bool x.jam)) g ((((cs.setIfInBounds (k * 4) (.int .i64 x.low)).setIfInBounds (k * 4 + 1) (.int .i64 x.size)).setIfInBounds (k * 4 + 2) (.int .i64 x.par)).setIfInBounds (k * 4 + 3) (.bool x.jam)) l (k + 1) := by
  have hlt : k < l.length := (List.getElem?_eq_some_iff.1 hx).1
  have hsz := h.size
  refine ⟨has_set (has_set (has_set (has_set h.heap _ _) _ _) _ _) _ _, by simpa using h.size, fun j y hj hy => ?_⟩
  by_cases hjk : j = k
  · subst hjk
    obtain rfl : x = y := by rw [hx] at hy; injection hy
    simp only [Array.getElem?_setIfInBounds, Array.size_setIfInBounds]
    refine ⟨?_, ?_, ?_, ?_⟩
    · rw [if_neg (by omega), if_neg (by omega), if_neg (by omega), if_pos trivial, if_pos (by omega)]
    · rw [if_neg (by omega), if_neg (by omega), if_pos trivial, if_pos (by omega)]
    · rw [if_neg (by omega), if_pos trivial, if_pos (by omega)]
    · rw [if_pos trivial, if_pos (by omega)]
  · have := h.got j y (by omega) hy
    simp only [Array.getElem?_setIfInBounds]
    refine ⟨?_, ?_, ?_, ?_⟩
    all_goals rw [if_neg (by omega), if_neg (by omega), if_neg (by omega), if_neg (by omega)]
    · exact this.1
    · exact this.2.1
    · exact this.2.2.1
    · exact this.2.2.2
theorem boxV_of {l : List Bx} {cs : Array Value} (h : ∀ j x, j < l.length → l[j]? = some x → cs[j * 4]? = some (.int .i64 x.low) ∧ cs[j * 4 + 1]? = some (.int .i64 x.size) ∧ cs[j * 4 + 2]? = some (.int .i64 x.par) ∧ cs[j * 4 + 3]? = some (.bool x.jam)) : ∀ (j : Nat) (u : Value), (boxV l)[j]? = some u → cs[j]? = some u := by
  intro j u hu
  have hj : j < 4 * l.length := by have := (List.getElem?_eq_some_iff.1 hu).1; rwa [boxV_len] at this
  obtain ⟨q, r, rfl, hr⟩ : ∃ q r, j = q * 4 + r ∧ r < 4 := ⟨j / 4, j % 4, by omega, by omega⟩
  have hq : q < l.length := by omega
  have hx := List.getElem?_eq_getElem hq
  have h1 := boxV_at hx
  have h2 := h q _ hq hx
  rcases r with _ | _ | _ | _ | r
  · rw [Nat.add_zero] at hu ⊢; rw [h1.1] at hu; rw [h2.1]; exact hu
  · rw [h1.2.1] at hu; rw [h2.2.1]; exact hu
  · rw [h1.2.2.1] at hu; rw [h2.2.2.1]; exact hu
  · rw [h1.2.2.2] at hu; rw [h2.2.2.2]; exact hu
  · omega
theorem CopiedB.row {w : World} {g base : Nat} {cs : Array Value} {l : List Bx} (h : CopiedB w g cs l l.length) (hb : base ≤ g) : OR w base 47 (some ⟨g, 0, none⟩) (boxV l) :=
  .inr ⟨g, cs, rfl, hb, h.heap, boxV_of h.got⟩

end Go.Proofs.Ythmoonjceokijaa
