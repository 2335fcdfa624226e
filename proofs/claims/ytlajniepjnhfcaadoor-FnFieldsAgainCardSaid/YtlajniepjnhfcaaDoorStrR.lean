/- Chapter 1: rows of texts, marks on them (out of the texts over rows of numbers, by program). -/
import Derived.Test.YtlajniepjnhfcaaDoorMkT
import Derived.Test.YtlajniepjnhfcaaDoorRng
import Derived.Deep.RegionHeld3
import Derived.Deep.DeepMust
import Derived.WalkLawsBesides
import Derived.Deep.DeepCutAuto
import Derived.RegionTactic
import Derived.Deep.RegionWith
namespace Go.Proofs.YtlajniepjnhfcaaDoor
open Go.RowKit
set_option linter.unusedVariables false

theorem only_call {a w w' : World} {g : Nat} (h : Only a g w) (hb : Below w.heap.size w w') : Only a g w' := ⟨hb.os.trans h.os, hb.tape.trans h.tape, hb.output.trans h.output, Nat.le_trans h.size hb.size, fun k hk hn => (hb.block k (Nat.lt_of_lt_of_le hk h.size)).trans (h.block k hk hn)⟩
def seqT (n : Nat) : List ByteArray := (List.range n).map fun (j : Nat) => mkT (1 + j)
theorem seqT_len (n : Nat) : (seqT n).length = n := by simp [seqT]
theorem seqT_at {n j : Nat} (h : j < n) : (seqT n)[j]? = some (mkT (1 + j)) := by simp [seqT, h]
/-- a slice of numbers reads as the list, below block B -/
def SL (w : World) (B : Nat) (A : Option Addr) (l : List ByteArray) : Prop :=
  l = [] ∨ ∃ b off, A = some ⟨b, off, none⟩ ∧ b < B ∧ ∀ k x, l[k]? = some x → w.cell? ⟨b, off + k, none⟩ = some (.string x)
theorem SL.below {w w' : World} {B : Nat} {A : Option Addr} {l : List ByteArray} (h : SL w B A l) (hb : Below B w w') : SL w' B A l := by
  rcases h with h | ⟨b, off, rfl, hlt, hc⟩
  · exact .inl h
  · exact .inr ⟨b, off, rfl, hlt, fun k x hx => (hb.cell (p := ⟨b, off + k, none⟩) hlt).trans (hc k x hx)⟩
theorem SL.at_ {w : World} {B : Nat} {A : Option Addr} {l : List ByteArray} (h : SL w B A l) {k : Nat} (hk : k < l.length) :
    ∃ b off x, A = some ⟨b, off, none⟩ ∧ b < B ∧ l[k]? = some x ∧ w.cell? ⟨b, off + k, none⟩ = some (.string x) := by
  rcases h with h | ⟨b, off, rfl, hlt, hc⟩
  · subst h; simp at hk
  · exact ⟨b, off, _, rfl, hlt, List.getElem?_eq_getElem hk, hc k _ (List.getElem?_eq_getElem hk)⟩
theorem SL.later {w w' : World} {B : Nat} {A : Option Addr} {l : List ByteArray} (h : SL w B A l) (hB : B ≤ w.heap.size) (hb : Below w.heap.size w w') : SL w' B A l := h.below (hb.mono hB)
theorem SL.more {w : World} {B B' : Nat} {A : Option Addr} {l : List ByteArray} (h : SL w B A l) (hB : B ≤ B') : SL w B' A l := by
  rcases h with h | ⟨b, off, rfl, hlt, hc⟩
  · exact .inl h
  · exact .inr ⟨b, off, rfl, by omega, hc⟩
def strV (l : List ByteArray) : List Value := l.map (Value.string)
theorem strV_at {l : List ByteArray} {k : Nat} {x : ByteArray} (h : l[k]? = some x) : (strV l)[k]? = some (.string x) := by simp [strV, h]
theorem strV_len (l : List ByteArray) : (strV l).length = l.length := by simp [strV]
theorem OR.sl {l : List ByteArray} {w : World} {base : Nat} {e : TypeId} {A : Option Addr} (h : OR w base e A (strV l)) : SL w w.heap.size A l := by
  rcases h with h | ⟨g, cur, rfl, hb, hh, hc⟩
  · exact .inl (by simpa [strV] using h)
  · exact .inr ⟨g, 0, rfl, has_lt hh, fun k x hx => by rw [Nat.zero_add]; exact has_cell hh k (hc _ _ (strV_at hx))⟩
theorem strV_nil {l : List ByteArray} (h : strV l = []) : l = [] := by simpa [strV] using h
theorem strV_of {l : List ByteArray} {cs : Array Value} (h : ∀ j x, j < l.length → l[j]? = some x → cs[j]? = some (.string x)) : ∀ (j : Nat) (u : Value), (strV l)[j]? = some u → cs[j]? = some u := by
  intro j u hu
  have hj : j < l.length := by have := (List.getElem?_eq_some_iff.1 hu).1; rwa [strV_len] at this
  have hx := List.getElem?_eq_getElem hj
  rw [strV_at hx] at hu
  rw [← hu]; exact h j _ hj hx

end Go.Proofs.YtlajniepjnhfcaaDoor
