
/- Rows of Span: what a slice of them reads as, and the laws' own helpers over them (gen_row.py). -/
import Derived.Test.YtjpkpfmpjgeeiaaGreatQ01
import Derived.Test.YtjpkpfmpjgeeiaaGreatQ02
import Derived.StillTailTactics
namespace Go.Proofs.YtjpkpfmpjgeeiaaGreat
open Go.RowKit
set_option linter.unusedVariables false


/-- a slice of them reads as the list, below block B -/
def spnL (w : World) (B : Nat) (A : Option Addr) (l : List (Int × Int)) : Prop :=
  l = [] ∨ ∃ b off, A = some ⟨b, off, none⟩ ∧ b < B ∧ ∀ k x, l[k]? = some x → w.cell? ⟨b, off + k * 2, none⟩ = some (.int .i64 x.1) ∧ w.cell? ⟨b, off + k * 2 + 1, none⟩ = some (.int .i64 x.2)
theorem spnL.below {w w' : World} {B : Nat} {A : Option Addr} {l : List (Int × Int)} (h : spnL w B A l) (hb : Below B w w') : spnL w' B A l := by
  rcases h with h | ⟨b, off, rfl, hlt, hc⟩
  · exact .inl h
  · refine .inr ⟨b, off, rfl, hlt, fun k x hx => ?_⟩
    have := hc k x hx
    exact ⟨(hb.cell (p := ⟨b, off + k * 2, none⟩) hlt).trans this.1, (hb.cell (p := ⟨b, off + k * 2 + 1, none⟩) hlt).trans this.2⟩
theorem spnL.at_ {w : World} {B : Nat} {A : Option Addr} {l : List (Int × Int)} (h : spnL w B A l) {k : Nat} (hk : k < l.length) :
    ∃ b off x, A = some ⟨b, off, none⟩ ∧ b < B ∧ l[k]? = some x ∧ w.cell? ⟨b, off + k * 2, none⟩ = some (.int .i64 x.1) ∧ w.cell? ⟨b, off + k * 2 + 1, none⟩ = some (.int .i64 x.2) := by
  rcases h with h | ⟨b, off, rfl, hlt, hc⟩
  · subst h; simp at hk
  · exact ⟨b, off, _, rfl, hlt, List.getElem?_eq_getElem hk, hc k _ (List.getElem?_eq_getElem hk)⟩
theorem spnL.later {w w' : World} {B : Nat} {A : Option Addr} {l : List (Int × Int)} (h : spnL w B A l) (hB : B ≤ w.heap.size) (hb : Below w.heap.size w w') : spnL w' B A l := h.below (hb.mono hB)
theorem spnL.more {w : World} {B B' : Nat} {A : Option Addr} {l : List (Int × Int)} (h : spnL w B A l) (hB : B ≤ B') : spnL w B' A l := by
  rcases h with h | ⟨b, off, rfl, hlt, hc⟩
  · exact .inl h
  · exact .inr ⟨b, off, rfl, by omega, hc⟩
def spnC (x : (Int × Int)) : List Value := [.int .i64 x.1, .int .i64 x.2]
def spnV (l : List (Int × Int)) : List Value := l.flatMap spnC
theorem spnV_len (l : List (Int × Int)) : (spnV l).length = 2 * l.length := by
  induction l with
  | nil => rfl
  | cons a r ih => simp [spnV, spnC] at ih ⊢; omega
theorem spnV_at : ∀ {l : List (Int × Int)} {k : Nat} {x : (Int × Int)}, l[k]? = some x → (spnV l)[k * 2]? = some (.int .i64 x.1) ∧ (spnV l)[k * 2 + 1]? = some (.int .i64 x.2)
  | [], k, u, h => by simp at h
  | a :: r, 0, u, h => by
    simp at h; subst h
    exact ⟨rfl, rfl⟩
  | a :: r, k + 1, u, h => by
    have ih := spnV_at (l := r) (k := k) (x := u) (by simpa using h)
    have e : spnV (a :: r) = .int .i64 a.1 :: .int .i64 a.2 :: spnV r := rfl
    rw [e, show (k + 1) * 2 = k * 2 + 1 + 1 by omega]
    exact ⟨by simpa using ih.1, by simpa using ih.2⟩
theorem spnV_nil {l : List (Int × Int)} (h : spnV l = []) : l = [] := by
  have := congrArg List.length h
  rw [spnV_len] at this
  exact List.eq_nil_of_length_eq_zero (by simp only [List.length_nil] at this; omega)
theorem OR.spn {w : World} {base : Nat} {e : TypeId} {A : Option Addr} {l : List (Int × Int)} (h : OR w base e A (spnV l)) : spnL w w.heap.size A l := by
  rcases h with h | ⟨g, cur, rfl, hb, hh, hc⟩
  · exact .inl (spnV_nil h)
  · refine .inr ⟨g, 0, rfl, has_lt hh, fun k x hx => ?_⟩
    have := spnV_at hx
    rw [Nat.zero_add]
    exact ⟨has_cell hh _ (hc _ _ this.1), has_cell hh _ (hc _ _ this.2)⟩
theorem OI.spn {w : World} {lo hi : Nat} {e : TypeId} {A : Option Addr} {l : List (Int × Int)} (h : OI w lo hi e A (spnV l)) : spnL w w.heap.size A l := h.or_.spn
theorem spnV_of {l : List (Int × Int)} {cs : Array Value} (h : ∀ j x, j < l.length → l[j]? = some x → cs[j * 2]? = some (.int .i64 x.1) ∧ cs[j * 2 + 1]? = some (.int .i64 x.2)) : ∀ (j : Nat) (u : Value), (spnV l)[j]? = some u → cs[j]? = some u := by
  intro j u hu
  have hj : j < 2 * l.length := by have := (List.getElem?_eq_some_iff.1 hu).1; rwa [spnV_len] at this
  obtain ⟨q, r, rfl, hr⟩ : ∃ q r, j = q * 2 + r ∧ r < 2 := ⟨j / 2, j % 2, by omega, by omega⟩
  have hq : q < l.length := by omega
  have hx := List.getElem?_eq_getElem hq
  have h1 := spnV_at hx
  have h2 := h q _ hq hx
  rcases r with _ | _ | r
  · rw [Nat.add_zero] at hu ⊢; rw [h1.1] at hu; rw [h2.1]; exact hu
  · rw [h1.2] at hu; rw [h2.2]; exact hu
  · omega
def seqspn (k : Int) (m : Nat) : List (Int × Int) := (List.range m).map fun (j : Nat) => ⟨k + 2 * (j : Int), k + 2 * (j : Int) + 1⟩
theorem spnInfo : (Tryz.prog.info? 169).map (fun i => (i.zero, i.size, i.bytes)) = some (some (.agg #[.int .i64 0, .int .i64 0]), 2, 16) := by kernel_rfl

theorem spnT1_any (x0 : Int) (x1 : Int) (w : World) :
    Calls Tryz.prog 136 #[.agg #[.int .i64 x0, .int .i64 x1]] w fun e w' => e = .returned (.agg #[.int .i64 x0, .int .i64 x1]) ∧ Below w.heap.size w w' := by
  go_enter Tryz.func136, Tryz.ntmps136
  go_wp2
  exact bodyPost_ret (v := .agg #[.int .i64 x0, .int .i64 x1]) (by simp [results, Tryz.results136, go_sem]) rfl ⟨rfl, (((Below.refl _ _).alloc (Nat.le_refl _) _).alloc (by simp) _).alloc (by simp; omega) _⟩
/-- block g holds the first k of the list, and has room for all of them -/
structure Copiedspn (w : World) (g : Nat) (cs : Array Value) (l : List (Int × Int)) (k : Nat) : Prop where
  heap : Has w g 169 cs
  size : l.length * 2 ≤ cs.size
  got : ∀ j x, j < k → l[j]? = some x → cs[j * 2]? = some (.int .i64 x.1) ∧ cs[j * 2 + 1]? = some (.int .i64 x.2)
theorem Copiedspn.below {w w' : World} {g : Nat} {cs : Array Value} {l : List (Int × Int)} {k : Nat} (h : Copiedspn w g cs l k) (hb : Below w.heap.size w w') : Copiedspn w' g cs l k := ⟨has_call h.heap hb, h.size, h.got⟩
theorem Copiedspn.cellAt {w : World} {g : Nat} {cs : Array Value} {l : List (Int × Int)} {k j : Nat} (h : Copiedspn w g cs l k) (hj : j < l.length * 2) : ∃ u, w.cell? ⟨g, j, none⟩ = some u :=
  ⟨cs[j]'(Nat.lt_of_lt_of_le hj h.size), has_cell h.heap j (Array.getElem?_eq_getElem _)⟩
theorem Copiedspn.step {w : World} {g : Nat} {cs : Array Value} {l : List (Int × Int)} {k : Nat} (h : Copiedspn w g cs l k) {x : (Int × Int)} (hx : l[k]? = some x) :
    Copiedspn ((w.setCell ⟨g, k * 2, none⟩ (.int .i64 x.1)).setCell ⟨g, k * 2 + 1, none⟩ (.int .i64 x.2)) g ((cs.setIfInBounds (k * 2) (.int .i64 x.1)).setIfInBounds (k * 2 + 1) (.int .i64 x.2)) l (k + 1) := by
  have hlt : k < l.length := (List.getElem?_eq_some_iff.1 hx).1
  have hsz := h.size
  refine ⟨(has_set (has_set h.heap _ _) _ _), by simpa using h.size, fun j y hj hy => ?_⟩
  by_cases hjk : j = k
  · subst hjk
    obtain rfl : x = y := by rw [hx] at hy; injection hy
    simp only [Array.getElem?_setIfInBounds, Array.size_setIfInBounds]
    refine ⟨?_, ?_⟩
    · rw [if_neg (by omega), if_pos trivial, if_pos (by omega)]
    · rw [if_pos trivial, if_pos (by omega)]
  · have := h.got j y (by omega) hy
    simp only [Array.getElem?_setIfInBounds]
    refine ⟨?_, ?_⟩
    all_goals rw [if_neg (by omega), if_neg (by omega)]
    · exact this.1
    · exact this.2
theorem Copiedspn.put {w : World} {g : Nat} {cs : Array Value} {l : List (Int × Int)} {k : Nat} (h : Copiedspn w g cs l l.length) (hk : k < l.length) (x : (Int × Int)) :
    Copiedspn ((w.setCell ⟨g, k * 2, none⟩ (.int .i64 x.1)).setCell ⟨g, k * 2 + 1, none⟩ (.int .i64 x.2)) g ((cs.setIfInBounds (k * 2) (.int .i64 x.1)).setIfInBounds (k * 2 + 1) (.int .i64 x.2)) (l.set k x) (l.set k x).length := by
  have hsz := h.size
  refine ⟨(has_set (has_set h.heap _ _) _ _), by simpa using h.size, fun j y hj hy => ?_⟩
  rw [List.length_set] at hj
  by_cases hjk : j = k
  · subst hjk
    rw [List.getElem?_set_self hk] at hy
    obtain rfl : x = y := by injection hy
    simp only [Array.getElem?_setIfInBounds, Array.size_setIfInBounds]
    refine ⟨?_, ?_⟩
    · rw [if_neg (by omega), if_pos trivial, if_pos (by omega)]
    · rw [if_pos trivial, if_pos (by omega)]
  · rw [List.getElem?_set_ne (fun e => hjk e.symm)] at hy
    have := h.got j y hj hy
    simp only [Array.getElem?_setIfInBounds]
    refine ⟨?_, ?_⟩
    all_goals rw [if_neg (by omega), if_neg (by omega)]
    · exact this.1
    · exact this.2
theorem Copiedspn.row {w : World} {g base : Nat} {cs : Array Value} {l : List (Int × Int)} (h : Copiedspn w g cs l l.length) (hb : base ≤ g) : OR w base 169 (some ⟨g, 0, none⟩) (spnV l) :=
  .inr ⟨g, cs, rfl, hb, h.heap, spnV_of h.got⟩

theorem makespn_run (m : Nat) (hm : m ≤ 1048576) : ∀ W : World, (Instr.makeSlice 82 (.int .i64 (m : Int)) (.int .i64 (m : Int))).run Tryz.prog W = .ok (.slice (some ⟨W.heap.size, 0, none⟩) m m) (W.alloc (.cells (madeCells #[.int .i64 0, .int .i64 0] (m * 2)) 169)) := by
  intro W
  obtain ⟨i, hi, hz0, hz1, hz2⟩ := info_parts spnInfo
  have := run_make (P := Tryz.prog) W 82 169 i _ Tryz.underlying82 hi hz0 .i64 .i64 (m : Int) (m : Int) (by omega) (by omega) (by rw [hz2]; omega) (by omega)
  simpa [hz1, Value.cells] using this

set_option maxRecDepth 100000 in
set_option maxHeartbeats 2000000 in
theorem spnTo_any (w : World) (B : Nat) (A : Option Addr) (c : Nat) (l : List (Int × Int)) (hl : l.length ≤ 1048576) (hB : B ≤ w.heap.size) (hS : spnL w B A l) :
    Calls Tryz.prog 108 #[.slice A l.length c] w fun e w' => ∃ A' c', e = .returned (.slice A' l.length c') ∧ OR w' w.heap.size 169 A' (spnV l) ∧ Below w.heap.size w w' := by
  have hmk := makespn_run l.length hl
  go_enter Tryz.func108, Tryz.ntmps108
  go_wp2
  go_loopw [4] (fun i wr => ∃ (k : Nat) (cs : Array Value), k ≤ l.length ∧ i = .int .i64 k ∧ Copiedspn wr w.heap.size cs l k ∧ Below w.heap.size w wr) (fun i _ => l.length - (intOf i).toNat)
  case atStart => exact ⟨0, _, Nat.zero_le _, rfl, ⟨has_new _ _ _, by simp [size_madeCells], fun j x hj => absurd hj (by omega)⟩, balloc _ _⟩
  case round =>
    obtain ⟨k, cs, hk, rfl, hcp, hb⟩ := hrel
    have HC := Lib.hid hcp; clear hcp
    clear hmk
    have hsz := hb.size
    by_cases hlt : k < l.length
    · obtain ⟨b, off, ⟨x0, x1⟩, rfl, hbB, hx, hc0, hc1⟩ := (hS.below (hb.mono hB)).at_ hlt
      have Hx := Lib.hid hx; clear hx
      have HS := Lib.hid hS; clear hS
      dsimp only at hc0 hc1
      go_wp2_with fail
      refine (spnT1_any _ _ _).mono ?_
      rintro e w1 ⟨rfl, hb1⟩
      have hC1 := HC.out.below hb1
      obtain ⟨u0, hu0⟩ := hC1.cellAt (j := k * 2) (by omega)
      obtain ⟨u1, hu1⟩ := hC1.cellAt (j := k * 2 + 1) (by omega)
      have hf0 := has_free hC1.heap (k * 2)
      have hf1 := has_free hC1.heap (k * 2 + 1)
      have hst := hC1.step Hx.out
      have HST := Lib.hid hst; clear hst hC1
      go_wp2
      go_roundw
      case rel => exact ⟨k + 1, _, by omega, by go_num, HST.out, (((hb.trans (hb1.mono hsz)).setCell (Nat.le_refl _) _).setCell (Nat.le_refl _) _)⟩
      case measure => simp [intOf]; omega
    · go_wp2
      go_ret
      have hkl : k = l.length := by omega
      subst hkl
      exact ⟨_, _, rfl, HC.out.row (Nat.le_refl _), hb⟩

end Go.Proofs.YtjpkpfmpjgeeiaaGreat
namespace Go.Proofs.YtjpkpfmpjgeeiaaGreat
open Go.RowKit
set_option linter.unusedVariables false

/-- block g holds the first k boxes of the list, and has room for all of them -/
structure CopiedB (w : World) (g : Nat) (cs : Array Value) (l : List Bx) (k : Nat) : Prop where
  heap : Has w g 125 cs
  size : l.length * 4 ≤ cs.size
  got : ∀ j x, j < k → l[j]? = some x → cs[j * 4]? = some (.int .i64 x.low) ∧ cs[j * 4 + 1]? = some (.int .i64 x.size) ∧ cs[j * 4 + 2]? = some (.int .i64 x.par) ∧ cs[j * 4 + 3]? = some (.bool x.jam)
theorem CopiedB.below {w w' : World} {g : Nat} {cs : Array Value} {l : List Bx} {k : Nat} (h : CopiedB w g cs l k) (hb : Below w.heap.size w w') : CopiedB w' g cs l k := ⟨has_call h.heap hb, h.size, h.got⟩
theorem CopiedB.cellAt {w : World} {g : Nat} {cs : Array Value} {l : List Bx} {k j : Nat} (h : CopiedB w g cs l k) (hj : j < l.length * 4) : ∃ u, w.cell? ⟨g, j, none⟩ = some u :=
  ⟨cs[j]'(Nat.lt_of_lt_of_le hj h.size), has_cell h.heap j (Array.getElem?_eq_getElem _)⟩
theorem CopiedB.step {w : World} {g : Nat} {cs : Array Value} {l : List Bx} {k : Nat} (h : CopiedB w g cs l k) {x : Bx} (hx : l[k]? = some x) :
    CopiedB ((((w.setCell ⟨g, k * 4, none⟩ (.int .i64 x.low)).setCell ⟨g, k * 4 + 1, none⟩ (.int .i64 x.size)).setCell ⟨g, k * 4 + 2, none⟩ (.int .i64 x.par)).setCell ⟨g, k * 4 + 3, none⟩ (.bool x.jam)) g ((((cs.setIfInBounds (k * 4) (.int .i64 x.low)).setIfInBounds (k * 4 + 1) (.int .i64 x.size)).setIfInBounds (k * 4 + 2) (.int .i64 x.par)).setIfInBounds (k * 4 + 3) (.bool x.jam)) l (k + 1) := by
  have hlt : k < l.length := (List.getElem?_eq_some_iff.1 hx).1
  have hsz := h.size
  refine ⟨has_set (has_set (has_set (has_set h.heap _ _) _ _) _ _) _ _, by simpa using h.size, fun j y hj hy => ?_⟩
  by_cases hjk : j = k
  · subst hjk
    obtain rfl : x = y := by rw [hx] at hy; injection hy
    simp only [Array.getElem?_setIfInBounds, Array.size_setIfInBounds]
    refine ⟨?_, ?_, ?_, ?_⟩
    · rw [if_neg (by omega), if_neg (by omega), if_neg (by omega), if_pos trivial, if_pos (by omega)]
    · rw [if_neg (by omega), if_neg (by omega), if_pos trivial, if_pos (by omega)]
    · rw [if_neg (by omega), if_pos trivial, if_pos (by omega)]
    · rw [if_pos trivial, if_pos (by omega)]
  · have := h.got j y (by omega) hy
    simp only [Array.getElem?_setIfInBounds]
    refine ⟨?_, ?_, ?_, ?_⟩
    all_goals rw [if_neg (by omega), if_neg (by omega), if_neg (by omega), if_neg (by omega)]
    · exact this.1
    · exact this.2.1
    · exact this.2.2.1
    · exact this.2.2.2
theorem boxV_of {l : List Bx} {cs : Array Value} (h : ∀ j x, j < l.length → l[j]? = some x → cs[j * 4]? = some (.int .i64 x.low) ∧ cs[j * 4 + 1]? = some (.int .i64 x.size) ∧ cs[j * 4 + 2]? = some (.int .i64 x.par) ∧ cs[j * 4 + 3]? = some (.bool x.jam)) : ∀ (j : Nat) (u : Value), (boxV l)[j]? = some u → cs[j]? = some u := by
  intro j u hu
  have hj : j < 4 * l.length := by have := (List.getElem?_eq_some_iff.1 hu).1; rwa [boxV_len] at this
  obtain ⟨q, r, rfl, hr⟩ : ∃ q r, j = q * 4 + r ∧ r < 4 := ⟨j / 4, j % 4, by omega, by omega⟩
  have hq : q < l.length := by omega
  have hx := List.getElem?_eq_getElem hq
  have h1 := boxV_at hx
  have h2 := h q _ hq hx
  rcases r with _ | _ | _ | _ | r
  · rw [Nat.add_zero] at hu ⊢; rw [h1.1] at hu; rw [h2.1]; exact hu
  · rw [h1.2.1] at hu; rw [h2.2.1]; exact hu
  · rw [h1.2.2.1] at hu; rw [h2.2.2.1]; exact hu
  · rw [h1.2.2.2] at hu; rw [h2.2.2.2]; exact hu
  · omega
theorem CopiedB.row {w : World} {g base : Nat} {cs : Array Value} {l : List Bx} (h : CopiedB w g cs l l.length) (hb : base ≤ g) : OR w base 125 (some ⟨g, 0, none⟩) (boxV l) :=
  .inr ⟨g, cs, rfl, hb, h.heap, boxV_of h.got⟩

set_option maxHeartbeats 1000000 in
theorem toBoxS_any (w : World) (B : Nat) (A : Option Addr) (c : Nat) (l : List Bx) (hl : l.length ≤ 1048576) (hB : B ≤ w.heap.size) (hS : XL w B A l) :
    Calls Tryz.prog 138 #[.slice A l.length c] w fun e w' => ∃ A' c', e = .returned (.slice A' l.length c') ∧ OR w' w.heap.size 125 A' (boxV l) ∧ Below w.heap.size w w' := by
  have hmk : ∀ W : World, (Instr.makeSlice 121 (.int .i64 (l.length : Int)) (.int .i64 (l.length : Int))).run Tryz.prog W = .ok (.slice (some ⟨W.heap.size, 0, none⟩) l.length l.length) (W.alloc (.cells (madeCells #[.int .i64 0, .int .i64 0, .int .i64 0, .bool false] (l.length * 4)) 125)) := by
    intro W
    obtain ⟨i, hi, hz0, hz1, hz2⟩ := info_parts boxInfo
    have := run_make (P := Tryz.prog) W 121 125 i _ Tryz.underlying121 hi hz0 .i64 .i64 (l.length : Int) (l.length : Int) (by omega) (by omega) (by rw [hz2]; omega) (by omega)
    simpa [hz1, Value.cells] using this
  go_enter Tryz.func138, Tryz.ntmps138
  go_wp2
  go_loopw [4] (fun i wr => ∃ (k : Nat) (cs : Array Value), k ≤ l.length ∧ i = .int .i64 k ∧ CopiedB wr w.heap.size cs l k ∧ Below w.heap.size w wr) (fun i _ => l.length - (intOf i).toNat)
  case atStart => exact ⟨0, _, Nat.zero_le _, rfl, ⟨has_new _ _ _, by simp [size_madeCells], fun j x hj => absurd hj (by omega)⟩, balloc _ _⟩
  case round =>
    obtain ⟨k, cs, hk, rfl, hcp, hb⟩ := hrel
    have HC := Lib.hid hcp; clear hcp
    clear hmk
    have hsz := hb.size
    by_cases hlt : k < l.length
    · obtain ⟨b, off, ⟨x0, x1, x2, x3⟩, rfl, hbB, hx, hc0, hc1, hc2, hc3⟩ := (hS.below (hb.mono hB)).at_ hlt
      have Hx := Lib.hid hx; clear hx
      have HS := Lib.hid hS; clear hS
      dsimp only at hc0 hc1 hc2 hc3
      go_wp2_with fail
      refine (toBox_any _ _ _ _ _).mono ?_
      rintro e w1 ⟨rfl, hb1⟩
      have hC1 := HC.out.below hb1
      obtain ⟨u0, hu0⟩ := hC1.cellAt (j := k * 4) (by omega)
      obtain ⟨u1, hu1⟩ := hC1.cellAt (j := k * 4 + 1) (by omega)
      obtain ⟨u2, hu2⟩ := hC1.cellAt (j := k * 4 + 2) (by omega)
      obtain ⟨u3, hu3⟩ := hC1.cellAt (j := k * 4 + 3) (by omega)
      have hf0 := has_free hC1.heap (k * 4)
      have hf1 := has_free hC1.heap (k * 4 + 1)
      have hf2 := has_free hC1.heap (k * 4 + 2)
      have hf3 := has_free hC1.heap (k * 4 + 3)
      have hst := hC1.step Hx.out
      have HST := Lib.hid hst; clear hst hC1
      go_wp2
      go_roundw
      case rel => exact ⟨k + 1, _, by omega, by go_num, HST.out, ((((hb.trans (hb1.mono hsz)).setCell (Nat.le_refl _) _).setCell (Nat.le_refl _) _).setCell (Nat.le_refl _) _).setCell (Nat.le_refl _) _⟩
      case measure => simp [intOf]; omega
    · go_wp2
      go_ret
      have hkl : k = l.length := by omega
      subst hkl
      exact ⟨_, _, rfl, HC.out.row (Nat.le_refl _), hb⟩

set_option maxRecDepth 100000 in
set_option maxHeartbeats 1000000 in
theorem eqBoxS_any (w : World) (B B' : Nat) (A A' : Option Addr) (c c' : Nat) (l : List Bx) (hl : l.length ≤ maxLen) (hB : B ≤ w.heap.size) (hB' : B' ≤ w.heap.size) (hS : XL w B A l) (hS' : XL w B' A' l) :
    Calls Tryz.prog 149 #[.slice A l.length c, .slice A' l.length c'] w fun e w' => e = .returned (.bool true) ∧ Below w.heap.size w w' := by
  unfold maxLen at hl
  have e0 : ((l.length : Int) != (l.length : Int)) = false := by simp
  go_enter Tryz.func149, Tryz.ntmps149
  go_wp2
  clear e0
  go_loopw [5] (fun i wr => ∃ k : Nat, k ≤ l.length ∧ i = .int .i64 k ∧ Below w.heap.size w wr) (fun i _ => l.length - (intOf i).toNat)
  case atStart => exact ⟨0, Nat.zero_le _, rfl, Below.refl _ _⟩
  case round =>
    obtain ⟨k, hk, rfl, hb⟩ := hrel
    by_cases hlt : k < l.length
    · have hsz := hb.size
      obtain ⟨b, off, x, rfl, hbB, hx, hc0, hc1, hc2, hc3⟩ := (hS.below (hb.mono hB)).at_ hlt
      obtain ⟨b', off', y, rfl, hbB', hy, hd0, hd1, hd2, hd3⟩ := (hS'.below (hb.mono hB')).at_ hlt
      obtain rfl : x = y := by rw [hx] at hy; injection hy
      obtain ⟨x0, x1, x2, x3⟩ := x
      dsimp only at hc0 hc1 hc2 hc3 hd0 hd1 hd2 hd3
      clear hx hy
      have HS := Lib.hid hS; clear hS
      have HS' := Lib.hid hS'; clear hS'
      have hbw : b < wr.heap.size := by omega
      have hbw' : b' < wr.heap.size := by omega
      go_wp2
      go_still_tail 8, (by kernel_rfl)
      change wpList _ _ _ _ _ wr.drew
      go_wp2_with (go_at_call 163; refine (eqBox_any _ _ _ _ _).mono ?_; rintro e w1 ⟨rfl, hb1⟩)
      go_roundw
      case rel => exact ⟨k + 1, by omega, by go_num, (hb.drew).trans (hb1.mono hsz)⟩
      case measure => simp [intOf]; omega
    · go_wp2
      go_ret
      exact ⟨rfl, hb⟩
end Go.Proofs.YtjpkpfmpjgeeiaaGreat
namespace Go.Proofs.YtjpkpfmpjgeeiaaGreat
open Go.RowKit
set_option linter.unusedVariables false

end Go.Proofs.YtjpkpfmpjgeeiaaGreat
