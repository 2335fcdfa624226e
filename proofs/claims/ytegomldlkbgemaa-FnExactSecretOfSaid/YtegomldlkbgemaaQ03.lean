/- Rows of Span: what a slice of them reads as, and the laws' own helpers over them (gen_row.py). -/
import Derived.Test.YtegomldlkbgemaaQ01
import Derived.Test.YtegomldlkbgemaaQ02
import Derived.StillTailTactics
namespace Go.Proofs.Ytegomldlkbgemaa
open Go.RowKit
set_option linter.unusedVariables false


/-- a slice of them reads as the list, below block B -/
def spnL (w : World) (B : Nat) (A : Option Addr) (l : List (Int × Int)) : Prop :=
  l = [] ∨ ∃ b off, A = some ⟨b, off, none⟩ ∧ b < B ∧ ∀ k x, l[k]? = some x → w.cell? ⟨b, off + k * 2, none⟩ = some (.int .i64 x.1) ∧ w.cell? ⟨b, off + k * 2 + 1, none⟩ = some (.int .i64 x.2)
theorem spnL.below {w w' : World} {B : Nat} {A : Option Addr} {l : List (Int × Int)} (h : spnL w B A l) (hb : Below B w w') : spnL w' B A l := by
  rcases h with h | ⟨b, off, rfl, hlt, hc⟩
  · exact .inl h
  · refine .inr ⟨b, off, rfl, hlt, fun k x hx => ?_⟩
    have := hc k x hx
    exact ⟨(hb.cell (p := ⟨b, off + k * 2, none⟩) hlt).trans this.1, (hb.cell (p := ⟨b, off + k * 2 + 1, none⟩) hlt).trans this.2⟩
theorem spnL.at_ {w : World} {B : Nat} {A : Option Addr} {l : List (Int × Int)} (h : spnL w B A l) {k : Nat} (hk : k < l.length) :
    ∃ b off x, A = some ⟨b, off, none⟩ ∧ b < B ∧ l[k]? = some x ∧ w.cell? ⟨b, off + k * 2, none⟩ = some (.int .i64 x.1) ∧ w.cell? ⟨b, off + k * 2 + 1, none⟩ = some (.int .i64 x.2) := by
  rcases h with h | ⟨b, off, rfl, hlt, hc⟩
  · subst h; simp at hk
  · exact ⟨b, off, _, rfl, hlt, List.getElem?_eq_getElem hk, hc k _ (List.getElem?_eq_getElem hk)⟩
theorem spnL.later {w w' : World} {B : Nat} {A : Option Addr} {l : List (Int × Int)} (h : spnL w B A l) (hB : B ≤ w.heap.size) (hb : Below w.heap.size w w') : spnL w' B A l := h.below (hb.mono hB)
theorem spnL.more {w : World} {B B' : Nat} {A : Option Addr} {l : List (Int × Int)} (h : spnL w B A l) (hB : B ≤ B') : spnL w B' A l := by
  rcases h with h | ⟨b, off, rfl, hlt, hc⟩
  · exact .inl h
  · exact .inr ⟨b, off, rfl, by omega, hc⟩
def spnC (x : (Int × Int)) : List Value := [.int .i64 x.1, .int .i64 x.2]
def spnV (l : List (Int × Int)) : List Value := l.flatMap spnC
theorem spnV_len (l : List (Int × Int)) : (spnV l).length = 2 * l.length := by
  induction l with
  | nil => rfl
  | cons a r ih => simp [spnV, spnC] at ih ⊢; omega
theorem spnV_app (l r : List (Int × Int)) : spnV (l ++ r) = spnV l ++ spnV r := by simp [spnV]
theorem spnV_one (x : (Int × Int)) : spnV [x] = [.int .i64 x.1, .int .i64 x.2] := rfl
theorem spnV_at : ∀ {l : List (Int × Int)} {k : Nat} {x : (Int × Int)}, l[k]? = some x → (spnV l)[k * 2]? = some (.int .i64 x.1) ∧ (spnV l)[k * 2 + 1]? = some (.int .i64 x.2)
  | [], k, u, h => by simp at h
  | a :: r, 0, u, h => by
    simp at h; subst h
    exact ⟨rfl, rfl⟩
  | a :: r, k + 1, u, h => by
    have ih := spnV_at (l := r) (k := k) (x := u) (by simpa using h)
    have e : spnV (a :: r) = .int .i64 a.1 :: .int .i64 a.2 :: spnV r := rfl
    rw [e, show (k + 1) * 2 = k * 2 + 1 + 1 by omega]
    exact ⟨by simpa using ih.1, by simpa using ih.2⟩
theorem spnV_nil {l : List (Int × Int)} (h : spnV l = []) : l = [] := by
  have := congrArg List.length h
  rw [spnV_len] at this
  exact List.eq_nil_of_length_eq_zero (by simp only [List.length_nil] at this; omega)
theorem OR.spn {w : World} {base : Nat} {e : TypeId} {A : Option Addr} {l : List (Int × Int)} (h : OR w base e A (spnV l)) : spnL w w.heap.size A l := by
  rcases h with h | ⟨g, cur, rfl, hb, hh, hc⟩
  · exact .inl (spnV_nil h)
  · refine .inr ⟨g, 0, rfl, has_lt hh, fun k x hx => ?_⟩
    have := spnV_at hx
    rw [Nat.zero_add]
    exact ⟨has_cell hh _ (hc _ _ this.1), has_cell hh _ (hc _ _ this.2)⟩
theorem OI.spn {w : World} {lo hi : Nat} {e : TypeId} {A : Option Addr} {l : List (Int × Int)} (h : OI w lo hi e A (spnV l)) : spnL w w.heap.size A l := h.or_.spn
theorem spnV_of {l : List (Int × Int)} {cs : Array Value} (h : ∀ j x, j < l.length → l[j]? = some x → cs[j * 2]? = some (.int .i64 x.1) ∧ cs[j * 2 + 1]? = some (.int .i64 x.2)) : ∀ (j : Nat) (u : Value), (spnV l)[j]? = some u → cs[j]? = some u := by
  intro j u hu
  have hj : j < 2 * l.length := by have := (List.getElem?_eq_some_iff.1 hu).1; rwa [spnV_len] at this
  obtain ⟨q, r, rfl, hr⟩ : ∃ q r, j = q * 2 + r ∧ r < 2 := ⟨j / 2, j % 2, by omega, by omega⟩
  have hq : q < l.length := by omega
  have hx := List.getElem?_eq_getElem hq
  have h1 := spnV_at hx
  have h2 := h q _ hq hx
  rcases r with _ | _ | r
  · rw [Nat.add_zero] at hu ⊢; rw [h1.1] at hu; rw [h2.1]; exact hu
  · rw [h1.2] at hu; rw [h2.2]; exact hu
  · omega
def seqspn (k : Int) (m : Nat) : List (Int × Int) := (List.range m).map fun (j : Nat) => ⟨k + 2 * (j : Int), k + 2 * (j : Int) + 1⟩
theorem seqspn_len (k : Int) (m : Nat) : (seqspn k m).length = m := by simp [seqspn]
theorem seqspn_at {k : Int} {m j : Nat} (h : j < m) : (seqspn k m)[j]? = some ⟨k + 2 * (j : Int), k + 2 * (j : Int) + 1⟩ := by simp [seqspn, h]
theorem spnV_seq {l : List (Int × Int)} {k : Int} (h : spnV l = []) : spnV (seqspn k l.length) = [] := by rw [spnV_nil h]; rfl

theorem spnSz_any (w : World) (A : Option Addr) (n c : Nat) (left : Int) (hn : n ≤ maxLen) (h1 : 0 ≤ left) (h2 : left ≤ 1048576) :
    Calls Try.prog 45 #[.slice A n c, .int .i64 left] w fun e w' => e = .returned (.int .i64 (szI left n)) ∧ w' = w := by
  unfold maxLen at hn
  by_cases h : left < n
  · go_enter Try.func45, Try.ntmps45
    go_wp2
    go_ret
    exact ⟨ret_int (if_pos (by omega)).symm, rfl⟩
  · go_enter Try.func45, Try.ntmps45
    go_wp2
    go_ret
    exact ⟨ret_int (if_neg (by omega)).symm, rfl⟩
theorem spnInfo : (Try.prog.info? 121).map (fun i => (i.zero, i.size, i.bytes)) = some (some (.agg #[.int .i64 0, .int .i64 0]), 2, 16) := by kernel_rfl

theorem spnT1_any (x0 : Int) (x1 : Int) (w : World) :
    Calls Try.prog 53 #[.agg #[.int .i64 x0, .int .i64 x1]] w fun e w' => e = .returned (.agg #[.int .i64 x0, .int .i64 x1]) ∧ Below w.heap.size w w' := by
  go_enter Try.func53, Try.ntmps53
  go_wp2
  exact bodyPost_ret (v := .agg #[.int .i64 x0, .int .i64 x1]) (by simp [results, Try.results53, go_sem]) rfl ⟨rfl, (((Below.refl _ _).alloc (Nat.le_refl _) _).alloc (by simp) _).alloc (by simp; omega) _⟩
theorem spnE1_any (x0 : Int) (x1 : Int) (w : World) :
    Calls Try.prog 56 #[.agg #[.int .i64 x0, .int .i64 x1], .agg #[.int .i64 x0, .int .i64 x1]] w fun e w' => e = .returned (.bool true) ∧ Below w.heap.size w w' := by
  have hb : Below w.heap.size w ((w.alloc (.cells #[.int .i64 x0, .int .i64 x1] 121)).alloc (.cells #[.int .i64 x0, .int .i64 x1] 121)) := ((Below.refl _ _).alloc (Nat.le_refl _) _).alloc (by simp) _
  have e0 : (x0 != x0) = false := by simp
  have e1 : (x1 != x1) = false := by simp
  go_enter Try.func56, Try.ntmps56
  go_wp2
  go_ret
  exact ⟨rfl, hb⟩

/-- block g holds the first k of the list, and has room for all of them -/
structure Copiedspn (w : World) (g : Nat) (cs : Array Value) (l : List (Int × Int)) (k : Nat) : Prop where
  heap : Has w g 121 cs
  size : l.length * 2 ≤ cs.size
  got : ∀ j x, j < k → l[j]? = some x → cs[j * 2]? = some (.int .i64 x.1) ∧ cs[j * 2 + 1]? = some (.int .i64 x.2)
theorem Copiedspn.below {w w' : World} {g : Nat} {cs : Array Value} {l : List (Int × Int)} {k : Nat} (h : Copiedspn w g cs l k) (hb : Below w.heap.size w w') : Copiedspn w' g cs l k := ⟨has_call h.heap hb, h.size, h.got⟩
theorem Copiedspn.cellAt {w : World} {g : Nat} {cs : Array Value} {l : List (Int × Int)} {k j : Nat} (h : Copiedspn w g cs l k) (hj : j < l.length * 2) : ∃ u, w.cell? ⟨g, j, none⟩ = some u :=
  ⟨cs[j]'(Nat.lt_of_lt_of_le hj h.size), has_cell h.heap j (Array.getElem?_eq_getElem _)⟩
theorem Copiedspn.step {w : World} {g : Nat} {cs : Array Value} {l : List (Int × Int)} {k : Nat} (h : Copiedspn w g cs l k) {x : (Int × Int)} (hx : l[k]? = some x) :
    Copiedspn ((w.setCell ⟨g, k * 2, none⟩ (.int .i64 x.1)).setCell ⟨g, k * 2 + 1, none⟩ (.int .i64 x.2)) g ((cs.setIfInBounds (k * 2) (.int .i64 x.1)).setIfInBounds (k * 2 + 1) (.int .i64 x.2)) l (k + 1) := by
  have hlt : k < l.length := (List.getElem?_eq_some_iff.1 hx).1
  have hsz := h.size
  refine ⟨(has_set (has_set h.heap _ _) _ _), by simpa using h.size, fun j y hj hy => ?_⟩
  by_cases hjk : j = k
  · subst hjk
    obtain rfl : x = y := by rw [hx] at hy; injection hy
    simp only [Array.getElem?_setIfInBounds, Array.size_setIfInBounds]
    refine ⟨?_, ?_⟩
    · rw [if_neg (by omega), if_pos trivial, if_pos (by omega)]
    · rw [if_pos trivial, if_pos (by omega)]
  · have := h.got j y (by omega) hy
    simp only [Array.getElem?_setIfInBounds]
    refine ⟨?_, ?_⟩
    all_goals rw [if_neg (by omega), if_neg (by omega)]
    · exact this.1
    · exact this.2
theorem Copiedspn.put {w : World} {g : Nat} {cs : Array Value} {l : List (Int × Int)} {k : Nat} (h : Copiedspn w g cs l l.length) (hk : k < l.length) (x : (Int × Int)) :
    Copiedspn ((w.setCell ⟨g, k * 2, none⟩ (.int .i64 x.1)).setCell ⟨g, k * 2 + 1, none⟩ (.int .i64 x.2)) g ((cs.setIfInBounds (k * 2) (.int .i64 x.1)).setIfInBounds (k * 2 + 1) (.int .i64 x.2)) (l.set k x) (l.set k x).length := by
  have hsz := h.size
  refine ⟨(has_set (has_set h.heap _ _) _ _), by simpa using h.size, fun j y hj hy => ?_⟩
  rw [List.length_set] at hj
  by_cases hjk : j = k
  · subst hjk
    rw [List.getElem?_set_self hk] at hy
    obtain rfl : x = y := by injection hy
    simp only [Array.getElem?_setIfInBounds, Array.size_setIfInBounds]
    refine ⟨?_, ?_⟩
    · rw [if_neg (by omega), if_pos trivial, if_pos (by omega)]
    · rw [if_pos trivial, if_pos (by omega)]
  · rw [List.getElem?_set_ne (fun e => hjk e.symm)] at hy
    have := h.got j y hj hy
    simp only [Array.getElem?_setIfInBounds]
    refine ⟨?_, ?_⟩
    all_goals rw [if_neg (by omega), if_neg (by omega)]
    · exact this.1
    · exact this.2
theorem Copiedspn.row {w : World} {g base : Nat} {cs : Array Value} {l : List (Int × Int)} (h : Copiedspn w g cs l l.length) (hb : base ≤ g) : OR w base 121 (some ⟨g, 0, none⟩) (spnV l) :=
  .inr ⟨g, cs, rfl, hb, h.heap, spnV_of h.got⟩

theorem makespn_run (m : Nat) (hm : m ≤ 1048576) : ∀ W : World, (Instr.makeSlice 67 (.int .i64 (m : Int)) (.int .i64 (m : Int))).run Try.prog W = .ok (.slice (some ⟨W.heap.size, 0, none⟩) m m) (W.alloc (.cells (madeCells #[.int .i64 0, .int .i64 0] (m * 2)) 121)) := by
  intro W
  obtain ⟨i, hi, hz0, hz1, hz2⟩ := info_parts spnInfo
  have := run_make (P := Try.prog) W 67 121 i _ Try.underlying67 hi hz0 .i64 .i64 (m : Int) (m : Int) (by omega) (by omega) (by rw [hz2]; omega) (by omega)
  simpa [hz1, Value.cells] using this

set_option maxRecDepth 100000 in
set_option maxHeartbeats 2000000 in
theorem spnTo_any (w : World) (B : Nat) (A : Option Addr) (c : Nat) (l : List (Int × Int)) (hl : l.length ≤ 1048576) (hB : B ≤ w.heap.size) (hS : spnL w B A l) :
    Calls Try.prog 47 #[.slice A l.length c] w fun e w' => ∃ A' c', e = .returned (.slice A' l.length c') ∧ OR w' w.heap.size 121 A' (spnV l) ∧ Below w.heap.size w w' := by
  have hmk := makespn_run l.length hl
  go_enter Try.func47, Try.ntmps47
  go_wp2
  go_loopw [4] (fun i wr => ∃ (k : Nat) (cs : Array Value), k ≤ l.length ∧ i = .int .i64 k ∧ Copiedspn wr w.heap.size cs l k ∧ Below w.heap.size w wr) (fun i _ => l.length - (intOf i).toNat)
  case atStart => exact ⟨0, _, Nat.zero_le _, rfl, ⟨has_new _ _ _, by simp [size_madeCells], fun j x hj => absurd hj (by omega)⟩, balloc _ _⟩
  case round =>
    obtain ⟨k, cs, hk, rfl, hcp, hb⟩ := hrel
    have HC := Lib.hid hcp; clear hcp
    clear hmk
    have hsz := hb.size
    by_cases hlt : k < l.length
    · obtain ⟨b, off, ⟨x0, x1⟩, rfl, hbB, hx, hc0, hc1⟩ := (hS.below (hb.mono hB)).at_ hlt
      have Hx := Lib.hid hx; clear hx
      have HS := Lib.hid hS; clear hS
      dsimp only at hc0 hc1
      go_wp2_with fail
      refine (spnT1_any _ _ _).mono ?_
      rintro e w1 ⟨rfl, hb1⟩
      have hC1 := HC.out.below hb1
      obtain ⟨u0, hu0⟩ := hC1.cellAt (j := k * 2) (by omega)
      obtain ⟨u1, hu1⟩ := hC1.cellAt (j := k * 2 + 1) (by omega)
      have hf0 := has_free hC1.heap (k * 2)
      have hf1 := has_free hC1.heap (k * 2 + 1)
      have hst := hC1.step Hx.out
      have HST := Lib.hid hst; clear hst hC1
      go_wp2
      go_roundw
      case rel => exact ⟨k + 1, _, by omega, by go_num, HST.out, (((hb.trans (hb1.mono hsz)).setCell (Nat.le_refl _) _).setCell (Nat.le_refl _) _)⟩
      case measure => simp [intOf]; omega
    · go_wp2
      go_ret
      have hkl : k = l.length := by omega
      subst hkl
      exact ⟨_, _, rfl, HC.out.row (Nat.le_refl _), hb⟩

set_option maxRecDepth 100000 in
set_option maxHeartbeats 2000000 in
theorem spnEq_any (w : World) (B B' : Nat) (A A' : Option Addr) (c c' : Nat) (l : List (Int × Int)) (hl : l.length ≤ maxLen) (hB : B ≤ w.heap.size) (hB' : B' ≤ w.heap.size) (hS : spnL w B A l) (hS' : spnL w B' A' l) :
    Calls Try.prog 49 #[.slice A l.length c, .slice A' l.length c'] w fun e w' => e = .returned (.bool true) ∧ Below w.heap.size w w' := by
  unfold maxLen at hl
  have e0 : ((l.length : Int) != (l.length : Int)) = false := by simp
  go_enter Try.func49, Try.ntmps49
  go_wp2
  clear e0
  go_loopw [5] (fun i wr => ∃ k : Nat, k ≤ l.length ∧ i = .int .i64 k ∧ Below w.heap.size w wr) (fun i _ => l.length - (intOf i).toNat)
  case atStart => exact ⟨0, Nat.zero_le _, rfl, Below.refl _ _⟩
  case round =>
    obtain ⟨k, hk, rfl, hb⟩ := hrel
    by_cases hlt : k < l.length
    · have hsz := hb.size
      obtain ⟨b, off, x, rfl, hbB, hx, hc0, hc1⟩ := (hS.below (hb.mono hB)).at_ hlt
      obtain ⟨b', off', y, rfl, hbB', hy, hd0, hd1⟩ := (hS'.below (hb.mono hB')).at_ hlt
      obtain rfl : x = y := by rw [hx] at hy; injection hy
      obtain ⟨x0, x1⟩ := x
      dsimp only at hc0 hc1 hd0 hd1
      clear hx hy
      have HS := Lib.hid hS; clear hS
      have HS' := Lib.hid hS'; clear hS'
      have hbw : b < wr.heap.size := by omega
      have hbw' : b' < wr.heap.size := by omega
      go_wp2
      go_still_tail 8, (by kernel_rfl)
      change wpList _ _ _ _ _ wr.drew
      go_wp2_with (go_at_call 56; refine (spnE1_any _ _ _).mono ?_; rintro e w1 ⟨rfl, hb1⟩)
      go_roundw
      case rel => exact ⟨k + 1, by omega, by go_num, (hb.drew).trans (hb1.mono hsz)⟩
      case measure => simp [intOf]; omega
    · go_wp2
      go_ret
      exact ⟨rfl, hb⟩

end Go.Proofs.Ytegomldlkbgemaa
namespace Go.Proofs.Ytegomldlkbgemaa
open Go.RowKit
set_option linter.unusedVariables false

/-- block g holds the first k boxes of the list, and has room for all of them -/
structure CopiedB (w : World) (g : Nat) (cs : Array Value) (l : List Bx) (k : Nat) : Prop where
  heap : Has w g 130 cs
  size : l.length * 4 ≤ cs.size
  got : ∀ j x, j < k → l[j]? = some x → cs[j * 4]? = some (.int .i64 x.low) ∧ cs[j * 4 + 1]? = some (.int .i64 x.size) ∧ cs[j * 4 + 2]? = some (.int .i64 x.par) ∧ cs[j * 4 + 3]? = some (.bool x.jam)
theorem CopiedB.below {w w' : World} {g : Nat} {cs : Array Value} {l : List Bx} {k : Nat} (h : CopiedB w g cs l k) (hb : Below w.heap.size w w') : CopiedB w' g cs l k := ⟨has_call h.heap hb, h.size, h.got⟩
theorem CopiedB.cellAt {w : World} {g : Nat} {cs : Array Value} {l : List Bx} {k j : Nat} (h : CopiedB w g cs l k) (hj : j < l.length * 4) : ∃ u, w.cell? ⟨g, j, none⟩ = some u :=
  ⟨cs[j]'(Nat.lt_of_lt_of_le hj h.size), has_cell h.heap j (Array.getElem?_eq_getElem _)⟩
theorem CopiedB.step {w : World} {g : Nat} {cs : Array Value} {l : List Bx} {k : Nat} (h : CopiedB w g cs l k) {x : Bx} (hx : l[k]? = some x) :
    CopiedB ((((w.setCell ⟨g, k * 4, none⟩ (.int .i64 x.low)).setCell ⟨g, k * 4 + 1, none⟩ (.int .i64 x.size)).setCell ⟨g, k * 4 + 2, none⟩ (.int .i64 x.par)).setCell ⟨g, k * 4 + 3, none⟩ (.bool x.jam)) g ((((cs.setIfInBounds (k * 4) (.int .i64 x.low)).setIfInBounds (k * 4 + 1) (.int .i64 x.size)).setIfInBounds (k * 4 + 2) (.int .i64 x.par)).setIfInBounds (k * 4 + 3) (.bool x.jam)) l (k + 1) := by
  have hlt : k < l.length := (List.getElem?_eq_some_iff.1 hx).1
  have hsz := h.size
  refine ⟨has_set (has_set (has_set (has_set h.heap _ _) _ _) _ _) _ _, by simpa using h.size, fun j y hj hy => ?_⟩
  by_cases hjk : j = k
  · subst hjk
    obtain rfl : x = y := by rw [hx] at hy; injection hy
    simp only [Array.getElem?_setIfInBounds, Array.size_setIfInBounds]
    refine ⟨?_, ?_, ?_, ?_⟩
    · rw [if_neg (by omega), if_neg (by omega), if_neg (by omega), if_pos trivial, if_pos (by omega)]
    · rw [if_neg (by omega), if_neg (by omega), if_pos trivial, if_pos (by omega)]
    · rw [if_neg (by omega), if_pos trivial, if_pos (by omega)]
    · rw [if_pos trivial, if_pos (by omega)]
  · have := h.got j y (by omega) hy
    simp only [Array.getElem?_setIfInBounds]
    refine ⟨?_, ?_, ?_, ?_⟩
    all_goals rw [if_neg (by omega), if_neg (by omega), if_neg (by omega), if_neg (by omega)]
    · exact this.1
    · exact this.2.1
    · exact this.2.2.1
    · exact this.2.2.2
theorem boxV_of {l : List Bx} {cs : Array Value} (h : ∀ j x, j < l.length → l[j]? = some x → cs[j * 4]? = some (.int .i64 x.low) ∧ cs[j * 4 + 1]? = some (.int .i64 x.size) ∧ cs[j * 4 + 2]? = some (.int .i64 x.par) ∧ cs[j * 4 + 3]? = some (.bool x.jam)) : ∀ (j : Nat) (u : Value), (boxV l)[j]? = some u → cs[j]? = some u := by
  intro j u hu
  have hj : j < 4 * l.length := by have := (List.getElem?_eq_some_iff.1 hu).1; rwa [boxV_len] at this
  obtain ⟨q, r, rfl, hr⟩ : ∃ q r, j = q * 4 + r ∧ r < 4 := ⟨j / 4, j % 4, by omega, by omega⟩
  have hq : q < l.length := by omega
  have hx := List.getElem?_eq_getElem hq
  have h1 := boxV_at hx
  have h2 := h q _ hq hx
  rcases r with _ | _ | _ | _ | r
  · rw [Nat.add_zero] at hu ⊢; rw [h1.1] at hu; rw [h2.1]; exact hu
  · rw [h1.2.1] at hu; rw [h2.2.1]; exact hu
  · rw [h1.2.2.1] at hu; rw [h2.2.2.1]; exact hu
  · rw [h1.2.2.2] at hu; rw [h2.2.2.2]; exact hu
  · omega
theorem CopiedB.row {w : World} {g base : Nat} {cs : Array Value} {l : List Bx} (h : CopiedB w g cs l l.length) (hb : base ≤ g) : OR w base 130 (some ⟨g, 0, none⟩) (boxV l) :=
  .inr ⟨g, cs, rfl, hb, h.heap, boxV_of h.got⟩

set_option maxHeartbeats 1000000 in
theorem toBoxS_any (w : World) (B : Nat) (A : Option Addr) (c : Nat) (l : List Bx) (hl : l.length ≤ 1048576) (hB : B ≤ w.heap.size) (hS : XL w B A l) :
    Calls Try.prog 55 #[.slice A l.length c] w fun e w' => ∃ A' c', e = .returned (.slice A' l.length c') ∧ OR w' w.heap.size 130 A' (boxV l) ∧ Below w.heap.size w w' := by
  have hmk : ∀ W : World, (Instr.makeSlice 112 (.int .i64 (l.length : Int)) (.int .i64 (l.length : Int))).run Try.prog W = .ok (.slice (some ⟨W.heap.size, 0, none⟩) l.length l.length) (W.alloc (.cells (madeCells #[.int .i64 0, .int .i64 0, .int .i64 0, .bool false] (l.length * 4)) 130)) := by
    intro W
    obtain ⟨i, hi, hz0, hz1, hz2⟩ := info_parts boxInfo
    have := run_make (P := Try.prog) W 112 130 i _ Try.underlying112 hi hz0 .i64 .i64 (l.length : Int) (l.length : Int) (by omega) (by omega) (by rw [hz2]; omega) (by omega)
    simpa [hz1, Value.cells] using this
  go_enter Try.func55, Try.ntmps55
  go_wp2
  go_loopw [4] (fun i wr => ∃ (k : Nat) (cs : Array Value), k ≤ l.length ∧ i = .int .i64 k ∧ CopiedB wr w.heap.size cs l k ∧ Below w.heap.size w wr) (fun i _ => l.length - (intOf i).toNat)
  case atStart => exact ⟨0, _, Nat.zero_le _, rfl, ⟨has_new _ _ _, by simp [size_madeCells], fun j x hj => absurd hj (by omega)⟩, balloc _ _⟩
  case round =>
    obtain ⟨k, cs, hk, rfl, hcp, hb⟩ := hrel
    have HC := Lib.hid hcp; clear hcp
    clear hmk
    have hsz := hb.size
    by_cases hlt : k < l.length
    · obtain ⟨b, off, ⟨x0, x1, x2, x3⟩, rfl, hbB, hx, hc0, hc1, hc2, hc3⟩ := (hS.below (hb.mono hB)).at_ hlt
      have Hx := Lib.hid hx; clear hx
      have HS := Lib.hid hS; clear hS
      dsimp only at hc0 hc1 hc2 hc3
      go_wp2_with fail
      refine (toBox_any _ _ _ _ _).mono ?_
      rintro e w1 ⟨rfl, hb1⟩
      have hC1 := HC.out.below hb1
      obtain ⟨u0, hu0⟩ := hC1.cellAt (j := k * 4) (by omega)
      obtain ⟨u1, hu1⟩ := hC1.cellAt (j := k * 4 + 1) (by omega)
      obtain ⟨u2, hu2⟩ := hC1.cellAt (j := k * 4 + 2) (by omega)
      obtain ⟨u3, hu3⟩ := hC1.cellAt (j := k * 4 + 3) (by omega)
      have hf0 := has_free hC1.heap (k * 4)
      have hf1 := has_free hC1.heap (k * 4 + 1)
      have hf2 := has_free hC1.heap (k * 4 + 2)
      have hf3 := has_free hC1.heap (k * 4 + 3)
      have hst := hC1.step Hx.out
      have HST := Lib.hid hst; clear hst hC1
      go_wp2
      go_roundw
      case rel => exact ⟨k + 1, _, by omega, by go_num, HST.out, ((((hb.trans (hb1.mono hsz)).setCell (Nat.le_refl _) _).setCell (Nat.le_refl _) _).setCell (Nat.le_refl _) _).setCell (Nat.le_refl _) _⟩
      case measure => simp [intOf]; omega
    · go_wp2
      go_ret
      have hkl : k = l.length := by omega
      subst hkl
      exact ⟨_, _, rfl, HC.out.row (Nat.le_refl _), hb⟩

set_option maxRecDepth 100000 in
set_option maxHeartbeats 1000000 in
theorem eqBoxS_any (w : World) (B B' : Nat) (A A' : Option Addr) (c c' : Nat) (l : List Bx) (hl : l.length ≤ maxLen) (hB : B ≤ w.heap.size) (hB' : B' ≤ w.heap.size) (hS : XL w B A l) (hS' : XL w B' A' l) :
    Calls Try.prog 58 #[.slice A l.length c, .slice A' l.length c'] w fun e w' => e = .returned (.bool true) ∧ Below w.heap.size w w' := by
  unfold maxLen at hl
  have e0 : ((l.length : Int) != (l.length : Int)) = false := by simp
  go_enter Try.func58, Try.ntmps58
  go_wp2
  clear e0
  go_loopw [5] (fun i wr => ∃ k : Nat, k ≤ l.length ∧ i = .int .i64 k ∧ Below w.heap.size w wr) (fun i _ => l.length - (intOf i).toNat)
  case atStart => exact ⟨0, Nat.zero_le _, rfl, Below.refl _ _⟩
  case round =>
    obtain ⟨k, hk, rfl, hb⟩ := hrel
    by_cases hlt : k < l.length
    · have hsz := hb.size
      obtain ⟨b, off, x, rfl, hbB, hx, hc0, hc1, hc2, hc3⟩ := (hS.below (hb.mono hB)).at_ hlt
      obtain ⟨b', off', y, rfl, hbB', hy, hd0, hd1, hd2, hd3⟩ := (hS'.below (hb.mono hB')).at_ hlt
      obtain rfl : x = y := by rw [hx] at hy; injection hy
      obtain ⟨x0, x1, x2, x3⟩ := x
      dsimp only at hc0 hc1 hc2 hc3 hd0 hd1 hd2 hd3
      clear hx hy
      have HS := Lib.hid hS; clear hS
      have HS' := Lib.hid hS'; clear hS'
      have hbw : b < wr.heap.size := by omega
      have hbw' : b' < wr.heap.size := by omega
      go_wp2
      go_still_tail 8, (by kernel_rfl)
      change wpList _ _ _ _ _ wr.drew
      go_wp2_with (go_at_call 60; refine (eqBox_any _ _ _ _ _).mono ?_; rintro e w1 ⟨rfl, hb1⟩)
      go_roundw
      case rel => exact ⟨k + 1, by omega, by go_num, (hb.drew).trans (hb1.mono hsz)⟩
      case measure => simp [intOf]; omega
    · go_wp2
      go_ret
      exact ⟨rfl, hb⟩
end Go.Proofs.Ytegomldlkbgemaa
namespace Go.Proofs.Ytegomldlkbgemaa
open Go.RowKit
set_option linter.unusedVariables false

theorem boxV_nil {l : List Bx} (h : boxV l = []) : l = [] := by
  have := congrArg List.length h
  rw [boxV_len] at this
  exact List.eq_nil_of_length_eq_zero (by simp only [List.length_nil] at this; omega)
end Go.Proofs.Ytegomldlkbgemaa
namespace Go.Proofs.Ytegomldlkbgemaa
open Go.RowKit
set_option linter.unusedVariables false

/-- the first index at which the list has x -/
def idxFrom (x : Int) : List Int → Nat → Int
  | [], _ => -1
  | a :: r, k => if x = a then k else idxFrom x r (k + 1)
theorem idx_drop (x : Int) (l : List Int) (k : Nat) (a : Int) (hk : l[k]? = some a) : idxFrom x (l.drop k) k = if x = a then (k : Int) else idxFrom x (l.drop (k + 1)) (k + 1) := by
  have hlt : k < l.length := (List.getElem?_eq_some_iff.1 hk).1
  rw [List.drop_eq_getElem_cons hlt]
  have : l[k] = a := by rw [List.getElem?_eq_getElem hlt] at hk; injection hk
  rw [this]; rfl
theorem idx_has (x : Int) : ∀ (l : List Int) (k : Nat), (0 ≤ idxFrom x l k ↔ x ∈ l)
  | [], k => by simp [idxFrom]
  | a :: r, k => by
    unfold idxFrom
    by_cases h : x = a
    · rw [if_pos h]; simp [h]
    · rw [if_neg h, idx_has x r (k + 1)]; simp [h]
def prevI (F : List Int) : Nat → Int
  | 0 => 0
  | m + 1 => (F[m]?).getD 0
theorem prev_next {F : List Int} {k : Nat} {x : Int} (h : F[k]? = some x) : prevI F (k + 1) = x := by simp [prevI, h]
structure FixTo (h : Int) (F : List Int) (n : Nat) : Prop where
  fix : ∀ (k : Nat) (x : Int), k < n → F[k]? = some x → 1 ≤ x ∧ x < h
  asc : ∀ (k : Nat) (x y : Int), k + 1 < n → F[k]? = some x → F[k + 1]? = some y → x < y
theorem fixTo_zero (h : Int) (F : List Int) : FixTo h F 0 := ⟨fun k x hk => absurd hk (by omega), fun k x y hk => absurd hk (by omega)⟩
theorem fixTo_next {h : Int} {F : List Int} {k : Nat} {x : Int} (hF : FixTo h F k) (hx : F[k]? = some x) (h1 : prevI F k < x) (h2 : x < h) (h3 : 0 ≤ prevI F k) : FixTo h F (k + 1) := by
  refine ⟨fun j y hj hy => ?_, fun j y z hj hy hz => ?_⟩
  · by_cases e : j = k
    · subst e; rw [hx] at hy; injection hy with hy; subst hy; omega
    · exact hF.fix j y (by omega) hy
  · by_cases e : j + 1 = k
    · subst e
      rw [hx] at hz; injection hz with hz; subst hz
      rw [prev_next hy] at h1; exact h1
    · exact hF.asc j y z (by omega) hy hz
theorem fix_done {h : Int} {F : List Int} (h1 : 1 ≤ h) (h2 : h ≤ 24) (hF : FixTo h F F.length) : FixOk h F :=
  ⟨h1, h2, fun k x hx => hF.fix k x (List.getElem?_eq_some_iff.1 hx).1 hx, fun k x y hx hy => hF.asc k x y (List.getElem?_eq_some_iff.1 hy).1 hx hy⟩
theorem fix_no {h : Int} {F : List Int} {k : Nat} {x : Int} (hx : F[k]? = some x) (hbad : x ≤ prevI F k ∨ h ≤ x) : ¬ FixOk h F := fun g => by
  have h1 := g.fix k x hx
  rcases hbad with hb | hb
  · rcases k with _ | m
    · simp [prevI] at hb; omega
    · have hml : m < F.length := by have := (List.getElem?_eq_some_iff.1 hx).1; omega
      have hm : F[m]? = some F[m] := List.getElem?_eq_getElem hml
      rw [prev_next hm] at hb
      have := g.asc m _ x hm hx
      omega
  · omega
end Go.Proofs.Ytegomldlkbgemaa
