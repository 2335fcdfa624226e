/- slices.Sort over a row of the call's own. -/
import Derived.Test.YtnimdbmcpbpoiaaShelfS
import Derived.Test.YtnimdbmcpbpoiaaBoxH
import Derived.Test.YtnimdbmcpbpoiaaOwn
import Derived.Deep.AppendLies
import Derived.Laws.OwnMore
namespace Go.Proofs.Ytnimdbmcpbpoiaa
open Go.RowKit Go.Sort
set_option linter.unusedVariables false
def sortL (L : List Int) : List Int := L.mergeSort fun x y => decide (x ≤ y)
theorem sortL_perm (L : List Int) : (sortL L).Perm L := List.mergeSort_perm _ _
theorem sortL_len (L : List Int) : (sortL L).length = L.length := (sortL_perm L).length_eq
theorem sortL_asc (L : List Int) : (sortL L).Pairwise (fun x y => x ≤ y) := by
  have := List.pairwise_mergeSort (le := fun x y : Int => decide (x ≤ y)) (by intro a b c; simp; omega) (by intro a b; simp; omega) L
  exact this.imp (by simp)
theorem has_putRow {w : World} {g : Nat} {e : TypeId} {cur : Array Value} (h : Has w g e cur) (n : Nat) (d : Array Int) (os : Array Obj) : Has (Sort.grow (putRow (Value.int .i64) (Sort.ahead w n) g 0 d) os) g e (putCells (Value.int .i64) 0 d cur) := by
  have hlt := has_lt h
  have h2 : (Sort.ahead w n).heap[g]? = some (.cells cur e (0, 0)) := h
  have h3 : (putRow (Value.int .i64) (Sort.ahead w n) g 0 d).heap[g]? = some (.cells (putCells (Value.int .i64) 0 d cur) e (0, 0)) := by
    have h4 : w.heap[g]? = some (.cells cur e (0, 0)) := h
    simp [putRow, mapBlock, Array.getElem?_modify, onCells, Sort.ahead, h4]
  have hs : g < (putRow (Value.int .i64) (Sort.ahead w n) g 0 d).heap.size := by simp [putRow, mapBlock]; exact hlt
  unfold Has
  rw [heap_grow_old _ _ hs]; exact h3
theorem below_putRow (w : World) (base g n : Nat) (d : Array Int) (os : Array Obj) (hg : base ≤ g) (hb : base ≤ w.heap.size) : Below base w (Sort.grow (putRow (Value.int .i64) (Sort.ahead w n) g 0 d) os) := by
  refine ⟨rfl, rfl, rfl, ?_, fun k hk => ?_⟩
  · simp [putRow, mapBlock, Sort.ahead]
  · have hs : k < (putRow (Value.int .i64) (Sort.ahead w n) g 0 d).heap.size := by simp [putRow, mapBlock, Sort.ahead]; omega
    rw [heap_grow_old _ _ hs]
    have hne : ¬ g = k := by omega
    simp [putRow, mapBlock, Array.getElem?_modify, Sort.ahead, hne]
theorem putCells_at {d : Array Int} {cur : Array Value} {j : Nat} {x : Int} (hj : d[j]? = some x) (hc : j < cur.size) : (putCells (Value.int .i64) 0 d cur)[j]? = some (.int .i64 x) := by
  obtain ⟨hjd, rfl⟩ := Array.getElem?_eq_some_iff.1 hj
  unfold putCells
  rw [Array.getElem?_mapIdx, Array.getElem?_eq_getElem hc]
  simp only [Option.map_some, Nat.zero_le, Nat.zero_add, true_and, if_pos hjd, Nat.sub_zero]
  rw [getElem!_pos d j hjd]
theorem sort_any (w : World) (base : Nat) (A : Option Addr) (c : Nat) (L : List Int) (hown : w.ownsRow base 3 1 (.slice A L.length c) L.length (intV L)) (hl : L.length ≤ 1000000) (hb : base ≤ w.heap.size) :
    Calls Try.prog 32 #[.slice A L.length c] w fun e w' => e = .returned (.tuple #[]) ∧ OR w' base 3 A (intV (sortL L)) ∧ Below base w w' := by
  rcases Nat.eq_zero_or_pos L.length with h0 | hpos
  · have hnil := List.eq_nil_of_length_eq_zero h0
    subst hnil
    refine (Try.slices_Sort_int_none A c w).mono ?_
    rintro e w' ⟨rfl, rfl⟩
    exact ⟨rfl, .inl (by simp [sortL, intV]), Below.refl _ _⟩
  · obtain ⟨g, cap, hform, hg1, hg2⟩ := hown.form hpos
    injection hform with h1 h2 h3; subst h1 h3; clear h2
    obtain ⟨_, cur, hcur⟩ := own_has hown g rfl
    have hH : Holds (Value.int .i64) w g 0 L.toArray := fun j hj => by
      have hj' : j < L.length := by simpa using hj
      have h1 := hown.cellAt j (by omega)
      have hx : L[j]? = some L[j] := List.getElem?_eq_getElem hj'
      rw [intV_at hx] at h1
      refine ⟨?_, by rw [Nat.zero_add]; exact hown.frozenAt j⟩
      rw [Nat.zero_add, h1, getElem!_pos L.toArray j hj]
      simp
    refine (Try.slices_Sort_int g 0 c L w hH hg2 (by omega)).mono ?_
    rintro e w' ⟨rfl, n, os, rfl⟩
    refine ⟨rfl, .inr ⟨g, _, rfl, hg1, has_putRow hcur n _ os, fun j u hu => ?_⟩, below_putRow w base g n _ os hg1 hb⟩
    have hj : j < (sortL L).length := by have := (List.getElem?_eq_some_iff.1 hu).1; rwa [intV_len] at this
    have hx : (sortL L)[j]? = some (sortL L)[j] := List.getElem?_eq_getElem hj
    rw [intV_at hx] at hu
    rw [← hu]
    refine putCells_at (by simp [sortL]) ?_
    have h4 := hown.cellAt (L.length - 1) (by omega)
    rw [intV_at (List.getElem?_eq_getElem (show L.length - 1 < L.length by omega))] at h4
    rw [cell_of_row w g (L.length - 1) cur _ (0, 0) hcur] at h4
    have := (Array.getElem?_eq_some_iff.1 h4).1
    rw [sortL_len] at hj; omega
end Go.Proofs.Ytnimdbmcpbpoiaa
