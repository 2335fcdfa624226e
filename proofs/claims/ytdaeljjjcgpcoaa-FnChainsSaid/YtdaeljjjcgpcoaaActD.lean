/- Chapter 4: the drawing of acts. -/
import Derived.Test.YtdaeljjjcgpcoaaPlb
namespace Go.Proofs.Ytdaeljjjcgpcoaa
open Go.RowKit
set_option linter.unusedVariables false

theorem Cur.bel {w w' : World} {B g : Nat} (h : Cur w B g) (hb : Below w.heap.size w w') : Cur w' B g := h.only fun k hk _ => hb.block k hk
theorem only_bel {w w' : World} {g : Nat} (h : Below w.heap.size w w') : Only w g w' := ⟨h.os, h.tape, h.output, h.size, fun k hk _ => h.block k hk⟩
theorem only_setn {a w : World} {g k : Nat} (h : Only a g w) (hk : a.heap.size ≤ k) (i : Nat) (u : Value) : Only a g (w.setCell ⟨k, i, none⟩ u) :=
  ⟨h.os, h.tape, h.output, by rw [size_set]; exact h.size, fun j hj hne => (Below.heap_setCell w ⟨k, i, none⟩ u j (by show j ≠ k; omega)).trans (h.block j hj hne)⟩
theorem Cur.setn {w : World} {B g k : Nat} (h : Cur w B g) (hk : B ≤ k) (hne : k ≠ g) (i : Nat) (u : Value) : Cur (w.setCell ⟨k, i, none⟩ u) B g := h.only fun j hj hjg => Below.heap_setCell w ⟨k, i, none⟩ u j (by show j ≠ k; omega)
theorem own_o {w w' : World} {base g : Nat} {e : TypeId} {size n : Nat} {v : Value} {xs : List Value} (h : w.ownsRow base e size v n xs) (ho : Only w g w') (hg : g < base) : w'.ownsRow base e size v n xs :=
  own_only h ho fun e => by have := (h.lt _ e).1; omega
/-- a row of acts that are in range -/
def DActs (w : World) (B g : Nat) (most : Int) (e : Ending) (w' : World) : Prop :=
  ∃ (v : Value) (l : List Int), e = .returned v ∧ (l.length : Int) ≤ most - 1 ∧ w'.ownsRow w.heap.size 3 1 v l.length (ints l) ∧ Cur w' B g ∧ Only w g w'
end Go.Proofs.Ytdaeljjjcgpcoaa
