/- Chapter 2: contracts of the laws' own helpers over numbers and boxes: sizes, copies, comparisons, marks. -/
import Derived.Test.YtpoiebebnpelhaaBoxO
import Derived.Test.YtpoiebebnpelhaaRet
import Derived.StillTailTactics
namespace Go.Proofs.Ytpoiebebnpelhaa
open Go.RowKit
set_option linter.unusedVariables false

theorem ret_eq {a b : Value} (h : a = b) : Ending.returned a = .returned b := by rw [h]
theorem szInt_any (w : World) (A : Option Addr) (n c : Nat) (left : Int) (hn : n ≤ maxLen) (h1 : 0 ≤ left) (h2 : left ≤ 1048576) :
    Calls Try.prog 51 #[.slice A n c, .int .i64 left] w fun e w' => e = .returned (.int .i64 (szI left n)) ∧ w' = w := by
  unfold maxLen at hn
  by_cases h : left < n
  · go_enter Try.func51, Try.ntmps51
    go_wp2
    go_ret
    exact ⟨ret_int (if_pos (by omega)).symm, rfl⟩
  · go_enter Try.func51, Try.ntmps51
    go_wp2
    go_ret
    exact ⟨ret_int (if_neg (by omega)).symm, rfl⟩
theorem szBox_any (w : World) (A : Option Addr) (n c : Nat) (left : Int) (hn : n ≤ maxLen) (h1 : 0 ≤ left) (h2 : left ≤ 1048576) :
    Calls Try.prog 52 #[.slice A n c, .int .i64 left] w fun e w' => e = .returned (.int .i64 (szI left n)) ∧ w' = w := by
  unfold maxLen at hn
  by_cases h : left < n
  · go_enter Try.func52, Try.ntmps52
    go_wp2
    go_ret
    exact ⟨ret_int (if_pos (by omega)).symm, rfl⟩
  · go_enter Try.func52, Try.ntmps52
    go_wp2
    go_ret
    exact ⟨ret_int (if_neg (by omega)).symm, rfl⟩
/-- the size of a column: -1 if it is above what is left -/
def szC (left : Int) (n m : Nat) : Int := if left < n + m then -1 else left - n - m
theorem szColumn_any (w : World) (A A' : Option Addr) (n c m c' : Nat) (h : Int) (left : Int) (hn : n ≤ maxLen) (hm : m ≤ maxLen) (h1 : 0 ≤ left) (h2 : left ≤ 1048576) :
    Calls Try.prog 27 #[.agg #[.int .i64 h, .slice A n c, .slice A' m c'], .int .i64 left] w fun e w' => e = .returned (.int .i64 (szC left n m)) ∧ Below w.heap.size w w' := by
  by_cases hl : left < n
  · have e1 : szI left n = -1 := if_pos hl
    go_enter Try.func27, Try.ntmps27
    go_wp2_with fail
    refine (szInt_any _ _ _ _ _ hn h1 h2).mono ?_
    rintro e w1 ⟨rfl, rfl⟩
    rw [e1]
    clear e1
    go_wp2_with fail
    go_ret
    exact ⟨ret_int (if_pos (by omega)).symm, balloc _ _⟩
  · have e1 : szI left n = left - n := if_neg hl
    by_cases hl2 : left - n < m
    · have e2 : szI (left - n) m = -1 := if_pos hl2
      go_enter Try.func27, Try.ntmps27
      go_wp2_with fail
      refine (szInt_any _ _ _ _ _ hn h1 h2).mono ?_
      rintro e w1 ⟨rfl, rfl⟩
      rw [e1]
      clear e1
      go_wp2_with fail
      refine (szBox_any _ _ _ _ _ hm (by omega) (by omega)).mono ?_
      rintro e w1 ⟨rfl, rfl⟩
      rw [e2]
      clear e2
      go_wp2_with fail
      go_ret
      exact ⟨ret_int (if_pos (by omega)).symm, balloc _ _⟩
    · have e2 : szI (left - n) m = left - n - m := if_neg hl2
      go_enter Try.func27, Try.ntmps27
      go_wp2_with fail
      refine (szInt_any _ _ _ _ _ hn h1 h2).mono ?_
      rintro e w1 ⟨rfl, rfl⟩
      rw [e1]
      clear e1
      go_wp2_with fail
      refine (szBox_any _ _ _ _ _ hm (by omega) (by omega)).mono ?_
      rintro e w1 ⟨rfl, rfl⟩
      rw [e2]
      clear e2
      go_wp2_with fail
      go_ret
      exact ⟨ret_int (if_neg (by omega)).symm, balloc _ _⟩

theorem intInfo : (Try.prog.info? 3).map (fun i => (i.zero, i.size, i.bytes)) = some (some (.int .i64 0), 1, 8) := by kernel_rfl
theorem boxInfo : (Try.prog.info? 72).map (fun i => (i.zero, i.size, i.bytes)) = some (some (.agg #[.int .i64 0, .int .i64 0, .int .i64 0, .bool false]), 4, 32) := by kernel_rfl

set_option maxHeartbeats 400000 in
theorem toIntS_any (w : World) (B : Nat) (A : Option Addr) (c : Nat) (l : List Int) (hl : l.length ≤ 1048576) (hB : B ≤ w.heap.size) (hS : IL w B A l) :
    Calls Try.prog 57 #[.slice A l.length c] w fun e w' => ∃ A' c', e = .returned (.slice A' l.length c') ∧ OR w' w.heap.size 3 A' (intV l) ∧ Below w.heap.size w w' := by
  have hmk : ∀ W : World, (Instr.makeSlice 45 (.int .i64 (l.length : Int)) (.int .i64 (l.length : Int))).run Try.prog W = .ok (.slice (some ⟨W.heap.size, 0, none⟩) l.length l.length) (W.alloc (.cells (madeCells #[.int .i64 0] l.length) 3)) := by
    intro W
    obtain ⟨i, hi, hz0, hz1, hz2⟩ := info_parts intInfo
    have := run_make (P := Try.prog) W 45 3 i _ Try.underlying45 hi hz0 .i64 .i64 (l.length : Int) (l.length : Int) (by omega) (by omega) (by rw [hz2]; omega) (by omega)
    simpa [hz1, Value.cells] using this
  have HS := Lib.hid hS; clear hS
  go_enter Try.func57, Try.ntmps57
  go_wp2
  go_loopw [4] (fun i wr => ∃ (k : Nat) (cs : Array Value), k ≤ l.length ∧ i = .int .i64 k ∧ Has wr w.heap.size 3 cs ∧ cs.size = l.length ∧ (∀ j x, j < k → l[j]? = some x → cs[j]? = some (.int .i64 x)) ∧ Below w.heap.size w wr) (fun i _ => l.length - (intOf i).toNat)
  case atStart => exact ⟨0, _, Nat.zero_le _, rfl, has_new _ _ _, by simp [size_madeCells], fun j x hj => absurd hj (by omega), balloc _ _⟩
  case round =>
    obtain ⟨k, cs, hk, rfl, hH, hcs, hg, hb⟩ := hrel
    have HG := Lib.hid hg; clear hg
    clear hmk
    have hsz := hb.size
    by_cases hlt : k < l.length
    · obtain ⟨b, off, x, rfl, hbB, hx, hc0⟩ := (HS.out.later hB hb).at_ hlt
      obtain ⟨uc, huc⟩ : ∃ uc, cs[k]? = some uc := ⟨_, Array.getElem?_eq_getElem (by omega)⟩
      have hs0 := has_cell hH k huc
      clear huc
      have hf0 := has_free hH k
      have HX := Lib.hid hx; clear hx
      have HH := Lib.hid hH; clear hH
      have hset : (∀ j y, j < k + 1 → l[j]? = some y → (cs.setIfInBounds k (.int .i64 x))[j]? = some (.int .i64 y)) := fun j y hj hy => by
        rw [Array.getElem?_setIfInBounds]
        by_cases e : k = j
        · subst e
          rw [if_pos rfl, if_pos (by omega)]
          rw [HX.out] at hy; injection hy with hy; rw [hy]
        · rw [if_neg e]; exact HG.out j y (by omega) hy
      have HSET := Lib.hid hset; clear hset
      have HCS := Lib.hid hcs; clear hcs
      go_wp2
      go_roundw
      case rel => exact ⟨k + 1, _, by omega, by go_num, has_set HH.out k _, by simp [HCS.out], HSET.out, hb.setCell (Nat.le_refl _) _⟩
      case measure => simp [intOf]; omega
    · go_wp2
      go_ret
      have hkl : k = l.length := by omega
      subst hkl
      refine ⟨_, _, rfl, .inr ⟨_, cs, rfl, Nat.le_refl _, hH, fun j u hu => ?_⟩, hb⟩
      have hj : j < l.length := by have := (List.getElem?_eq_some_iff.1 hu).1; rwa [intV_len] at this
      have hx := List.getElem?_eq_getElem hj
      rw [intV_at hx] at hu
      rw [← hu]; exact HG.out j _ hj hx

set_option maxHeartbeats 400000 in
theorem eqIntS_any (w : World) (B B' : Nat) (A A' : Option Addr) (c c' : Nat) (l : List Int) (hl : l.length ≤ maxLen) (hB : B ≤ w.heap.size) (hB' : B' ≤ w.heap.size) (hS : IL w B A l) (hS' : IL w B' A' l) :
    Calls Try.prog 64 #[.slice A l.length c, .slice A' l.length c'] w fun e w' => e = .returned (.bool true) ∧ Below w.heap.size w w' := by
  unfold maxLen at hl
  have e0 : ((l.length : Int) != (l.length : Int)) = false := by simp
  go_enter Try.func64, Try.ntmps64
  go_wp2
  clear e0
  go_loopw [5] (fun i wr => ∃ k : Nat, k ≤ l.length ∧ i = .int .i64 k ∧ Below w.heap.size w wr) (fun i _ => l.length - (intOf i).toNat)
  case atStart => exact ⟨0, Nat.zero_le _, rfl, Below.refl _ _⟩
  case round =>
    obtain ⟨k, hk, rfl, hb⟩ := hrel
    by_cases hlt : k < l.length
    · have hsz := hb.size
      obtain ⟨b, off, x, rfl, hbB, hx, hc0⟩ := (hS.below (hb.mono hB)).at_ hlt
      obtain ⟨b', off', y, rfl, hbB', hy, hd0⟩ := (hS'.below (hb.mono hB')).at_ hlt
      obtain rfl : x = y := by rw [hx] at hy; injection hy
      clear hx hy
      have HS := Lib.hid hS; clear hS
      have HS' := Lib.hid hS'; clear hS'
      have e0 : (x != x) = false := by simp
      go_wp2
      go_quiet (fail)
      go_wp2
      go_roundw
      case rel => exact ⟨k + 1, by omega, by go_num, below_drewN hb _⟩
      case measure => simp [intOf]; omega
    · go_wp2
      go_ret
      exact ⟨rfl, hb⟩

theorem toBox_any (x0 x1 x2 : Int) (x3 : Bool) (w : World) :
    Calls Try.prog 75 #[.agg #[.int .i64 x0, .int .i64 x1, .int .i64 x2, .bool x3]] w fun e w' => e = .returned (.agg #[.int .i64 x0, .int .i64 x1, .int .i64 x2, .bool x3]) ∧ Below w.heap.size w w' := by
  go_enter Try.func75, Try.ntmps75
  go_wp2
  exact bodyPost_ret (v := .agg #[.int .i64 x0, .int .i64 x1, .int .i64 x2, .bool x3]) (by simp [results, Try.results75, go_sem]) rfl ⟨rfl, (((Below.refl _ _).alloc (Nat.le_refl _) _).alloc (by simp) _).alloc (by simp; omega) _⟩
theorem eqBox_any (x0 x1 x2 : Int) (x3 : Bool) (w : World) :
    Calls Try.prog 80 #[.agg #[.int .i64 x0, .int .i64 x1, .int .i64 x2, .bool x3], .agg #[.int .i64 x0, .int .i64 x1, .int .i64 x2, .bool x3]] w fun e w' => e = .returned (.bool true) ∧ Below w.heap.size w w' := by
  have hb : Below w.heap.size w ((w.alloc (.cells #[.int .i64 x0, .int .i64 x1, .int .i64 x2, .bool x3] 72)).alloc (.cells #[.int .i64 x0, .int .i64 x1, .int .i64 x2, .bool x3] 72)) := ((Below.refl _ _).alloc (Nat.le_refl _) _).alloc (by simp) _
  have e0 : (x0 != x0) = false := by simp
  have e1 : (x1 != x1) = false := by simp
  have e2 : (x2 != x2) = false := by simp
  have e3 : (x3 != x3) = false := by simp
  go_enter Try.func80, Try.ntmps80
  go_wp2
  go_ret
  exact ⟨rfl, hb⟩
end Go.Proofs.Ytpoiebebnpelhaa
