/- Chapter 1: the law FnHexText: the draw, and the walk. -/
import Derived.Test.YtlajniepjnhfcaaDoorHexT
import Derived.Test.YtlajniepjnhfcaaDoorHexB
namespace Go.Proofs.YtlajniepjnhfcaaDoor
open Go.RowKit
set_option linter.unusedVariables false

theorem only_own {w w2 w3 : World} {g : Nat} {row : Option Nat} {o : Obj} (h2 : Only w g w2) (hgrow : (w2.alloc o).grownBy w3 row) (hrow : ∀ b, row = some b → w.heap.size ≤ b) : Only w g w3 :=
  ⟨hgrow.os.trans h2.os, hgrow.tape.trans h2.tape, hgrow.output.trans h2.output, Nat.le_trans h2.size (Nat.le_trans (balloc w2 o).size hgrow.size), fun k hk hne => by
    have h2s := h2.size
    have hs := (balloc w2 o).size
    have hr : some k ≠ row := fun e => by have := hrow k e.symm; omega
    exact ((hgrow.block k (by omega) hr).trans ((balloc w2 o).block k (by omega))).trans (h2.block k hk hne)⟩
theorem cur_own {w2 w3 : World} {B g : Nat} {row : Option Nat} {o : Obj} (h : Cur w2 B g) (hgrow : (w2.alloc o).grownBy w3 row) (hrow : ∀ b, row = some b → g < b) : Cur w3 B g := by
  obtain ⟨A, n, c, i, hh, hH, hS, hn, h0, h1, hg⟩ := h
  have hlt := has_lt hH
  have key : ∀ k, k ≤ g → w3.heap[k]? = w2.heap[k]? := fun k hk => by
    have hs := (balloc w2 o).size
    have hr : some k ≠ row := fun e => by have := hrow k e.symm; omega
    exact (hgrow.block k (by omega) hr).trans ((balloc w2 o).block k (by omega))
  exact ⟨A, n, c, i, hh, (key g (Nat.le_refl _)).trans hH, hS.kept fun p hp => World.cell?_of_block (key p.block (by omega)), hn, h0, h1, hg⟩

set_option maxRecDepth 100000 in
set_option maxHeartbeats 1000000 in
theorem long_any (w : World) (n : Nat) (x : Int) (hn : n ≤ 20001) :
    Calls Tryd.prog 13 #[.int .i64 (n : Int), .int .u8 x] w fun e w' => ∃ s : ByteArray, s.size = n ∧ e = .returned (.string s) ∧ Below w.heap.size w w' := by
  obtain ⟨i0, hi0, hz0, hz1, hz2⟩ := info_parts u8Info
  have hmk : ∀ W : World, (Instr.makeSlice 22 (.int .i64 (n : Int)) (.int .i64 (n : Int))).run Tryd.prog W = .ok (.slice (some ⟨W.heap.size, 0, none⟩) n n) (W.alloc (.cells (madeCells #[.int .u8 0] n) 5)) := by
    intro W
    have := run_make (P := Tryd.prog) W 22 5 i0 _ Tryd.underlying22 hi0 hz0 .i64 .i64 (n : Int) (n : Int) (by omega) (by omega) (by rw [hz2]; omega) (by omega)
    simpa [hz1, Value.cells] using this
  go_enter Tryd.func13, Tryd.ntmps13
  go_wp2
  go_loopw [6] (fun i wr => ∃ (k : Nat) (cs : Array Value), k ≤ n ∧ i = .int .i64 k ∧ Has wr w.heap.size 5 cs ∧ cs.size = n ∧ (∀ j, j < k → cs[j]? = some (.int .u8 x)) ∧ Below w.heap.size w wr) (fun i _ => n - (intOf i).toNat)
  case atStart => exact ⟨0, _, Nat.zero_le _, rfl, has_new _ _ _, by simp [size_madeCells], fun j hj => absurd hj (by omega), balloc _ _⟩
  case round =>
    obtain ⟨k, cs, hk, rfl, hH, hcs, hg, hb⟩ := hrel
    have HG := Lib.hid hg; clear hg
    clear hmk
    have hsz := hb.size
    by_cases hlt : k < n
    · obtain ⟨uc, huc⟩ : ∃ uc, cs[k]? = some uc := ⟨_, Array.getElem?_eq_getElem (by omega)⟩
      have hs0 := has_cell hH k huc
      clear huc
      have hf0 := has_free hH k
      have HH := Lib.hid hH; clear hH
      have hset : (∀ j, j < k + 1 → (cs.setIfInBounds k (.int .u8 x))[j]? = some (.int .u8 x)) := fun j hj => by
        rw [Array.getElem?_setIfInBounds]
        by_cases e : k = j
        · subst e
          rw [if_pos rfl, if_pos (by omega)]
        · rw [if_neg e]; exact HG.out j (by omega)
      have HSET := Lib.hid hset; clear hset
      have HCS := Lib.hid hcs; clear hcs
      go_wp2
      go_roundw
      case rel => exact ⟨k + 1, _, by omega, by go_num, has_set HH.out k _, by simp [HCS.out], HSET.out, hb.setCell (Nat.le_refl _) _⟩
      case measure => simp [intOf]; omega
    · have hkn : k = n := by omega
      subst hkn
      have hconv : (convert 22 9 (.slice (some ⟨w.heap.size, 0, none⟩) k k)).run Tryd.prog wr = .ok (.string (strOfNums (List.replicate k x))) wr :=
        run_convert_bytes_arg wr _ _ Tryd.underlying22 Tryd.underlying5 w.heap.size 0 k k (List.replicate k x) (by simp) (fun i hi => by
          rw [Nat.zero_add, has_cell hH i (HG.out i hi)]
          simp [hi]) _ Tryd.underlying9
      go_wp2
      go_ret
      exact ⟨_, by rw [strOfNums_size]; simp, rfl, hb⟩

end Go.Proofs.YtlajniepjnhfcaaDoor
