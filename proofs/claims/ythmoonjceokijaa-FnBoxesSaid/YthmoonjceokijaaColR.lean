/- Chapter 2: rows in ranges of blocks; marking the rows of a column, and reading the marks. -/
import Derived.Test.YthmoonjceokijaaBoxM
import Derived.Test.YthmoonjceokijaaColD
import Derived.Test.YthmoonjceokijaaColC
namespace Go.Proofs.Ythmoonjceokijaa
open Go.RowKit
set_option linter.unusedVariables false

/-- the row lies in a block of its own, at or behind lo and before hi -/
def OI (w : World) (lo hi : Nat) (e : TypeId) (A : Option Addr) (xs : List Value) : Prop :=
  xs = [] ∨ ∃ g cur, A = some ⟨g, 0, none⟩ ∧ lo ≤ g ∧ g < hi ∧ Has w g e cur ∧ ∀ (j : Nat) (u : Value), xs[j]? = some u → cur[j]? = some u
/-- outside of the range of blocks all is as it was -/
def Within (lo hi : Nat) (w w' : World) : Prop := Below 0 w w' ∧ ∀ k, k < w.heap.size → (k < lo ∨ hi ≤ k) → w'.heap[k]? = w.heap[k]?
section
variable {w w' w2 : World} {lo hi a b B base g : Nat} {e e' t : TypeId} {A A' : Option Addr} {xs ys : List Value} {cs : Array Value}
theorem OI.of_or (h : OR w lo e A xs) : OI w lo w.heap.size e A xs := by
  rcases h with h | ⟨g, cur, rfl, hb, hh, hc⟩
  · exact .inl h
  · exact .inr ⟨g, cur, rfl, hb, has_lt hh, hh, hc⟩
theorem OI.or_ (h : OI w lo hi e A xs) : OR w lo e A xs := by
  rcases h with h | ⟨g, cur, rfl, hb, _, hh, hc⟩
  · exact .inl h
  · exact .inr ⟨g, cur, rfl, hb, hh, hc⟩
theorem OI.il {l : List Int} (h : OI w lo hi e A (intV l)) : IL w w.heap.size A l := h.or_.il
theorem OI.xl {l : List Bx} (h : OI w lo hi e A (boxV l)) : XL w w.heap.size A l := h.or_.xl
theorem Within.of_below (h : Below w.heap.size w w') : Within lo hi w w' := ⟨⟨h.os, h.tape, h.output, h.size, fun k hk => absurd hk (by omega)⟩, fun k hk _ => h.block k hk⟩
theorem Within.size (h : Within lo hi w w') : w.heap.size ≤ w'.heap.size := h.1.size
theorem Within.below (h : Within lo hi w w') (hB : B ≤ lo) (hB' : B ≤ w.heap.size) : Below B w w' := ⟨h.1.os, h.1.tape, h.1.output, h.1.size, fun k hk => h.2 k (by omega) (.inl (by omega))⟩
theorem Within.trans (h : Within lo hi w w') (h' : Within lo hi w' w2) : Within lo hi w w2 := ⟨h.1.trans h'.1, fun k hk ho => (h'.2 k (by have := h.1.size; omega) ho).trans (h.2 k hk ho)⟩
theorem Within.has (h : Within lo hi w w') (hH : Has w g t cs) (ho : g < lo ∨ hi ≤ g) : Has w' g t cs := (h.2 g (has_lt hH) ho).trans hH
theorem Within.oi (h : Within lo hi w w') (hO : OI w a b e A xs) (ho : b ≤ lo ∨ hi ≤ a) : OI w' a b e A xs := by
  rcases hO with hO | ⟨g, cur, rfl, h1, h2, hh, hc⟩
  · exact .inl hO
  · exact .inr ⟨g, cur, rfl, h1, h2, h.has hh (by omega), hc⟩
theorem OI.call (h : OI w a b e A xs) (hb : Below w.heap.size w w') : OI w' a b e A xs := by
  rcases h with hO | ⟨g, cur, rfl, h1, h2, hh, hc⟩
  · exact .inl hO
  · exact .inr ⟨g, cur, rfl, h1, h2, has_call hh hb, hc⟩
theorem within_marks (h : OI w lo hi e A xs) (m : Marks w base e A xs w') : Within lo hi w w' := by
  rcases m with ⟨_, rfl⟩ | ⟨hne, g, cur, rfl, hb, hh, ho⟩
  · exact Within.of_below (Below.refl _ _)
  · rcases h with h | ⟨g', cur', e1, h1, h2, _, _⟩
    · exact absurd h hne
    · injection e1 with e1; injection e1 with e1; subst e1
      exact ⟨⟨ho.os, ho.tape, ho.output, ho.size, fun k hk => absurd hk (by omega)⟩, fun k hk hk' => ho.block k hk (fun e => by injection e; omega)⟩
theorem oi_marked (h : OI w lo hi e A xs) (h' : OR w' base e A ys) (hy : xs = [] → ys = []) : OI w' lo hi e A ys := by
  rcases h with h | ⟨g, cur, rfl, h1, h2, _, _⟩
  · exact .inl (hy h)
  · rcases h' with h' | ⟨g', cur', e1, _, hh, hc⟩
    · exact .inl h'
    · injection e1 with e1; injection e1 with e1; subst e1
      exact .inr ⟨g, cur', rfl, h1, h2, hh, hc⟩
theorem oi_other (h : OI w a b e A xs) (m : Marks w base e' A' ys w') (hne : e ≠ e') : OI w' a b e A xs := by
  rcases m with ⟨_, rfl⟩ | ⟨_, g', cur', rfl, hb', hh', ho⟩
  · exact h
  · rcases h with h | ⟨g, cur, rfl, h1, h2, hh, hc⟩
    · exact .inl h
    · have hgg : g ≠ g' := fun eq => by
        subst eq
        have := hh.symm.trans hh'
        injection this with this; injection this with _ this _
        exact hne this
      exact .inr ⟨g, cur, rfl, h1, h2, (ho.block g (has_lt hh) (fun eq => hgg (by injection eq))).trans hh, hc⟩
end
theorem intV_seq {l : List Int} {k : Int} (h : intV l = []) : intV (seqI k l.length) = [] := by rw [intV_nil h]; rfl
theorem boxV_seq {l : List Bx} {k : Int} (h : boxV l = []) : boxV (seqB k l.length) = [] := by rw [boxV_nil h]; rfl

end Go.Proofs.Ythmoonjceokijaa
