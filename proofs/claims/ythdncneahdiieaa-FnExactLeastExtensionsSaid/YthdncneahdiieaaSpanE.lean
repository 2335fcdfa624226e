/- Chapter 1: contracts of the law's own helpers over spans: the copy, the comparison. -/
import Derived.Test.YthdncneahdiieaaSpanD
import Derived.Laws.Rows
import Derived.Laws.NewBlocks
import Derived.StillTailTactics
namespace Go.Proofs.Ythdncneahdiieaa
open Go.RowKit
set_option linter.unusedVariables false

/-- the cells of a list of spans, one behind the other -/
def cellsL (l : List (Int × Int)) : List Value := l.flatMap fun x => [.int .i64 x.1, .int .i64 x.2]

/-- block g holds the first k spans of the list, and has room for all of them -/
structure Copied (w : World) (g : Nat) (cs : Array Value) (l : List (Int × Int)) (k : Nat) : Prop where
  heap : w.heap[g]? = some (.cells cs 81 (0, 0))
  size : cs.size = l.length * 2
  got : ∀ j x, j < k → l[j]? = some x → cs[j * 2]? = some (.int .i64 x.1) ∧ cs[j * 2 + 1]? = some (.int .i64 x.2)
theorem Copied.lt {w : World} {g : Nat} {cs : Array Value} {l : List (Int × Int)} {k : Nat} (h : Copied w g cs l k) : g < w.heap.size := by
  rcases Nat.lt_or_ge g w.heap.size with hlt | hge
  · exact hlt
  · have := h.heap; rw [Array.getElem?_eq_none hge] at this; cases this
theorem Copied.below {w w' : World} {g : Nat} {cs : Array Value} {l : List (Int × Int)} {k : Nat} (h : Copied w g cs l k) (hb : Below w.heap.size w w') : Copied w' g cs l k :=
  ⟨(hb.block g h.lt).trans h.heap, h.size, h.got⟩
theorem Copied.cell {w : World} {g : Nat} {cs : Array Value} {l : List (Int × Int)} {k : Nat} (h : Copied w g cs l k) (j : Nat) : w.cell? ⟨g, j, none⟩ = cs[j]? := cell_of_row w g j cs _ (0, 0) h.heap
theorem Copied.cellAt {w : World} {g : Nat} {cs : Array Value} {l : List (Int × Int)} {k j : Nat} (h : Copied w g cs l k) (hj : j < l.length * 2) : ∃ u, w.cell? ⟨g, j, none⟩ = some u := by
  rw [h.cell]; exact ⟨cs[j]'(by rw [h.size]; exact hj), Array.getElem?_eq_getElem _⟩
theorem Copied.frozenAt {w : World} {g : Nat} {cs : Array Value} {l : List (Int × Int)} {k : Nat} (h : Copied w g cs l k) (j : Nat) : w.frozen? ⟨g, j, none⟩ = false := by
  simp [World.frozen?, h.heap]
theorem Copied.step {w : World} {g : Nat} {cs : Array Value} {l : List (Int × Int)} {k : Nat} (h : Copied w g cs l k) {x : Int × Int} (hx : l[k]? = some x) :
    Copied ((w.setCell ⟨g, k * 2, none⟩ (.int .i64 x.1)).setCell ⟨g, k * 2 + 1, none⟩ (.int .i64 x.2)) g ((cs.setIfInBounds (k * 2) (.int .i64 x.1)).setIfInBounds (k * 2 + 1) (.int .i64 x.2)) l (k + 1) := by
  have hlt : k < l.length := (List.getElem?_eq_some_iff.1 hx).1
  have hsz := h.size
  refine ⟨?_, by simp [h.size], fun j y hj hy => ?_⟩
  · simp [World.setCell, Array.getElem?_modify, h.heap]
  · by_cases hjk : j = k
    · subst hjk
      obtain rfl : x = y := by rw [hx] at hy; injection hy
      simp only [Array.getElem?_setIfInBounds]
      constructor
      · rw [if_neg (by omega), if_pos trivial, if_pos (by omega)]
      · rw [if_pos trivial, if_pos (by simp; omega)]
    · have := h.got j y (by omega) hy
      simp only [Array.getElem?_setIfInBounds]
      rw [if_neg (by omega), if_neg (by omega), if_neg (by omega), if_neg (by omega)]
      exact this
theorem Copied.reads {w : World} {g : Nat} {cs : Array Value} {l : List (Int × Int)} (h : Copied w g cs l l.length) : SL w w.heap.size (some ⟨g, 0, none⟩) l := by
  refine .inr ⟨g, 0, rfl, h.lt, fun k x hx => ?_⟩
  have hlt : k < l.length := (List.getElem?_eq_some_iff.1 hx).1
  have := h.got k x hlt hx
  rw [Nat.zero_add, h.cell, h.cell]; exact this
theorem spanInfo : (Try.prog.info? 81).map (fun i => (i.zero, i.size, i.bytes)) = some (some (.agg #[.int .i64 0, .int .i64 0]), 2, 16) := by kernel_rfl

set_option maxHeartbeats 400000 in
theorem toSpanS_any (w : World) (B : Nat) (A : Option Addr) (c : Nat) (l : List (Int × Int)) (hl : l.length ≤ 1048576) (hB : B ≤ w.heap.size) (hS : SL w B A l) :
    Calls Try.prog 33 #[.slice A l.length c] w fun e w' => ∃ A', e = .returned (.slice A' l.length l.length) ∧ (∀ a, A' = some a → w.heap.size ≤ a.block) ∧ SL w' w'.heap.size A' l ∧ Below w.heap.size w w' := by
  have hmk : ∀ W : World, (Instr.makeSlice 30 (.int .i64 (l.length : Int)) (.int .i64 (l.length : Int))).run Try.prog W = .ok (.slice (some ⟨W.heap.size, 0, none⟩) l.length l.length) (W.alloc (.cells (madeCells #[.int .i64 0, .int .i64 0] (l.length * 2)) 81)) := by
    intro W
    obtain ⟨i, hi, hz0, hz1, hz2⟩ := info_parts spanInfo
    have := run_make (P := Try.prog) W 30 81 i _ Try.underlying30 hi hz0 .i64 .i64 (l.length : Int) (l.length : Int) (by omega) (by omega) (by rw [hz2]; omega) (by omega)
    simpa [hz1, Value.cells] using this
  go_enter Try.func33, Try.ntmps33
  go_wp2
  go_loopw [4] (fun i wr => ∃ (k : Nat) (cs : Array Value), k ≤ l.length ∧ i = .int .i64 k ∧ Copied wr w.heap.size cs l k ∧ Below w.heap.size w wr) (fun i _ => l.length - (intOf i).toNat)
  case atStart => exact ⟨0, _, Nat.zero_le _, rfl, ⟨heap_alloc_new w _, by simp [size_madeCells], fun j x hj => absurd hj (by omega)⟩, (Below.refl _ _).alloc (Nat.le_refl _) _⟩
  case round =>
    obtain ⟨k, cs, hk, rfl, hcp, hb⟩ := hrel
    have HC := Lib.hid hcp; clear hcp
    clear hmk
    have hsz := hb.size
    by_cases hlt : k < l.length
    · obtain ⟨b, off, x0, x1, rfl, hbB, hx, hc0, hc1⟩ := (hS.below (hb.mono hB)).at_ hlt
      have Hx := Lib.hid hx; clear hx
      have HS := Lib.hid hS; clear hS
      go_wp2_with fail
      refine (toSpan_any _ _ _).mono ?_
      rintro e w1 ⟨rfl, hb1⟩
      have hC1 := HC.out.below hb1
      have hs0 := hC1.cellAt (j := k * 2) (by omega)
      have hs1 := hC1.cellAt (j := k * 2 + 1) (by omega)
      have hf : ∀ j, w1.frozen? ⟨w.heap.size, j, none⟩ = false := hC1.frozenAt
      obtain ⟨u0, hu0⟩ := hs0
      obtain ⟨u1, hu1⟩ := hs1
      have hf0 := hf (k * 2)
      have hf1 := hf (k * 2 + 1)
      have HC1 := Lib.hid hC1; clear hC1 hf
      go_wp2
      go_roundw
      case rel => exact ⟨k + 1, _, by omega, by go_num, HC1.out.step Hx.out, ((hb.trans (hb1.mono hsz)).setCell (Nat.le_refl _) _).setCell (Nat.le_refl _) _⟩
      case measure => simp [intOf]; omega
    · go_wp2
      go_ret
      have hkl : k = l.length := by omega
      subst hkl
      exact ⟨_, rfl, fun a ha => by injection ha with ha; subst ha; exact Nat.le_refl _, HC.out.reads, hb⟩

set_option maxHeartbeats 400000 in
theorem eqSpanS_any (w : World) (B B' : Nat) (A A' : Option Addr) (c c' : Nat) (l : List (Int × Int)) (hl : l.length ≤ maxLen) (hB : B ≤ w.heap.size) (hB' : B' ≤ w.heap.size) (hS : SL w B A l) (hS' : SL w B' A' l) :
    Calls Try.prog 39 #[.slice A l.length c, .slice A' l.length c'] w fun e w' => e = .returned (.bool true) ∧ Below w.heap.size w w' := by
  unfold maxLen at hl
  have e0 : ((l.length : Int) != (l.length : Int)) = false := by simp
  go_enter Try.func39, Try.ntmps39
  go_wp2
  clear e0
  go_loopw [5] (fun i wr => ∃ k : Nat, k ≤ l.length ∧ i = .int .i64 k ∧ Below w.heap.size w wr) (fun i _ => l.length - (intOf i).toNat)
  case atStart => exact ⟨0, Nat.zero_le _, rfl, Below.refl _ _⟩
  case round =>
    obtain ⟨k, hk, rfl, hb⟩ := hrel
    by_cases hlt : k < l.length
    · have hsz := hb.size
      obtain ⟨b, off, x0, x1, rfl, hbB, hx, hc0, hc1⟩ := (hS.below (hb.mono hB)).at_ hlt
      obtain ⟨b', off', y0, y1, rfl, hbB', hy, hd0, hd1⟩ := (hS'.below (hb.mono hB')).at_ hlt
      obtain ⟨rfl, rfl⟩ : x0 = y0 ∧ x1 = y1 := by rw [hx] at hy; injection hy with hy; injection hy with e1 e2; exact ⟨e1, e2⟩
      clear hx hy
      have HS := Lib.hid hS; clear hS
      have HS' := Lib.hid hS'; clear hS'
      have hbw : b < wr.heap.size := by omega
      have hbw' : b' < wr.heap.size := by omega
      go_wp2
      go_still_tail 8, (by kernel_rfl)
      change wpList _ _ _ _ _ wr.drew
      go_wp2_with (go_at_call 60; refine (eqSpan_any _ _ _ _ _).mono ?_; rintro e w1 ⟨rfl, hb1⟩)
      go_roundw
      case rel => exact ⟨k + 1, by omega, by go_num, (hb.drew).trans (hb1.mono hsz)⟩
      case measure => simp [intOf]; omega
    · go_wp2
      go_ret
      exact ⟨rfl, hb⟩
end Go.Proofs.Ythdncneahdiieaa
