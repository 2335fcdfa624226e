/- Chapter 1: contracts of the law's own helpers over spans: the copy, the comparison. -/
import Derived.Test.YtfkhhefphbhppaaSpanD
import Derived.Laws.Rows
import Derived.Laws.NewBlocks
import Derived.StillTailTactics
namespace Go.Proofs.Ytfkhhefphbhppaa
open Go.RowKit
set_option linter.unusedVariables false

/-- the cells of a list of spans, one behind the other -/
def cellsL (l : List (Int × Int)) : List Value := l.flatMap fun x => [.int .i64 x.1, .int .i64 x.2]

/-- block g holds the first k spans of the list, and has room for all of them -/
structure Copied (w : World) (g : Nat) (cs : Array Value) (l : List (Int × Int)) (k : Nat) : Prop where
  heap : w.heap[g]? = some (.cells cs 57 (0, 0))
  size : cs.size = l.length * 2
  got : ∀ j x, j < k → l[j]? = some x → cs[j * 2]? = some (.int .i64 x.1) ∧ cs[j * 2 + 1]? = some (.int .i64 x.2)
theorem Copied.lt {w : World} {g : Nat} {cs : Array Value} {l : List (Int × Int)} {k : Nat} (h : Copied w g cs l k) : g < w.heap.size := by
  rcases Nat.lt_or_ge g w.heap.size with hlt | hge
  · exact hlt
  · have := h.heap; rw [Array.getElem?_eq_none hge] at this; cases this
theorem Copied.below {w w' : World} {g : Nat} {cs : Array Value} {l : List (Int × Int)} {k : Nat} (h : Copied w g cs l k) (hb : Below w.heap.size w w') : Copied w' g cs l k :=
  ⟨(hb.block g h.lt).trans h.heap, h.size, h.got⟩
theorem Copied.cell {w : World} {g : Nat} {cs : Array Value} {l : List (Int × Int)} {k : Nat} (h : Copied w g cs l k) (j : Nat) : w.cell? ⟨g, j, none⟩ = cs[j]? := cell_of_row w g j cs _ (0, 0) h.heap
theorem Copied.cellAt {w : World} {g : Nat} {cs : Array Value} {l : List (Int × Int)} {k j : Nat} (h : Copied w g cs l k) (hj : j < l.length * 2) : ∃ u, w.cell? ⟨g, j, none⟩ = some u := by
  rw [h.cell]; exact ⟨cs[j]'(by rw [h.size]; exact hj), Array.getElem?_eq_getElem _⟩
theorem Copied.frozenAt {w : World} {g : Nat} {cs : Array Value} {l : List (Int × Int)} {k : Nat} (h : Copied w g cs l k) (j : Nat) : w.frozen? ⟨g, j, none⟩ = false := by
  simp [World.frozen?, h.heap]
theorem Copied.step {w : World} {g : Nat} {cs : Array Value} {l : List (Int × Int)} {k : Nat} (h : Copied w g cs l k) {x : Int × Int} (hx : l[k]? = some x) :
    Copied ((w.setCell ⟨g, k * 2, none⟩ (.int .i64 x.1)).setCell ⟨g, k * 2 + 1, none⟩ (.int .i64 x.2)) g ((cs.setIfInBounds (k * 2) (.int .i64 x.1)).setIfInBounds (k * 2 + 1) (.int .i64 x.2)) l (k + 1) := by
  have hlt : k < l.length := (List.getElem?_eq_some_iff.1 hx).1
  have hsz := h.size
  refine ⟨?_, by simp [h.size], fun j y hj hy => ?_⟩
  · simp [World.setCell, Array.getElem?_modify, h.heap]
  · by_cases hjk : j = k
    · subst hjk
      obtain rfl : x = y := by rw [hx] at hy; injection hy
      simp only [Array.getElem?_setIfInBounds]
      constructor
      · rw [if_neg (by omega), if_pos trivial, if_pos (by omega)]
      · rw [if_pos trivial, if_pos (by simp; omega)]
    · have := h.got j y (by omega) hy
      simp only [Array.getElem?_setIfInBounds]
      rw [if_neg (by omega), if_neg (by omega), if_neg (by omega), if_neg (by omega)]
      exact this
theorem Copied.reads {w : World} {g : Nat} {cs : Array Value} {l : List (Int × Int)} (h : Copied w g cs l l.length) : SL w w.heap.size (some ⟨g, 0, none⟩) l := by
  refine .inr ⟨g, 0, rfl, h.lt, fun k x hx => ?_⟩
  have hlt : k < l.length := (List.getElem?_eq_some_iff.1 hx).1
  have := h.got k x hlt hx
  rw [Nat.zero_add, h.cell, h.cell]; exact this
theorem spanInfo : (Try.prog.info? 57).map (fun i => (i.zero, i.size, i.bytes)) = some (some (.agg #[.int .i64 0, .int .i64 0]), 2, 16) := by kernel_rfl

end Go.Proofs.Ytfkhhefphbhppaa
