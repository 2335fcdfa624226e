/- The drawing of twelve numbers and of a week. -/
import Derived.Test.YtfkhhefphbhppaaDraw
import Derived.Test.YtfkhhefphbhppaaWeekA
import Derived.OwnWalk
import Derived.Deep.AppendLies
import Derived.Deep.DeepMust
namespace Go.Proofs.Ytfkhhefphbhppaa
open Go.RowKit
set_option linter.unusedVariables false

theorem intInfoP : (Try.prog.info? 3).map (fun i => (i.zero, i.size, i.bytes)) = some (some (.int .i64 0), 1, 8) := by kernel_rfl
def ints (l : List Int) : List Value := l.map (Value.int .i64)
theorem Cur.only {w w' : World} {B g : Nat} (h : Cur w B g) (hk : ∀ k, k < w.heap.size → (k < B ∨ k = g) → w'.heap[k]? = w.heap[k]?) : Cur w' B g := by
  have hlt := h.lt
  obtain ⟨A, n, c, i, hh, hH, hS, hn, h0, h1, hg⟩ := h
  refine ⟨A, n, c, i, hh, (hk g hlt.2 (.inr rfl)).trans hH, ?_, hn, h0, h1, hg⟩
  exact hS.kept fun p hp => World.cell?_of_block (hk p.block (by omega) (.inl hp))

/-- what a row of the call's own is behind a step that changes the cursor alone -/
theorem own_only {w w' : World} {base g : Nat} {e : TypeId} {size n : Nat} {v : Value} {xs : List Value} (h : w.ownsRow base e size v n xs) (ho : Only w g w') (hne : v.ownBlock ≠ some g) : w'.ownsRow base e size v n xs :=
  h.kept (row := some g) ho (.inr hne)

def Twelve (w : World) (e : Ending) (w' : World) : Prop := ∃ (b c : Nat) (l : List Int), e = .returned (.slice (some ⟨b, 0, none⟩) 12 c) ∧ l.length = 12 ∧ (∀ x ∈ l, 0 ≤ x ∧ x ≤ 9999) ∧ (∀ k x, l[k]? = some x → w'.cell? ⟨b, k, none⟩ = some (.int .i64 x)) ∧ b < w'.heap.size ∧ w.heap.size ≤ b ∧ Below w.heap.size w w'

end Go.Proofs.Ytfkhhefphbhppaa
