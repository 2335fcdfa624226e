/- Rows of Stay: what a slice of them reads as, and the laws' own helpers over them (gen_row.py). -/
import Derived.Test.YtfkhhefphbhppaaOwn
import Derived.Test.YtfkhhefphbhppaaRng
import Derived.Test.YtfkhhefphbhppaaFeeP
import Derived.StillTailTactics
namespace Go.Proofs.Ytfkhhefphbhppaa
open Go.RowKit
set_option linter.unusedVariables false


/-- a slice of them reads as the list, below block B -/
def stL (w : World) (B : Nat) (A : Option Addr) (l : List St) : Prop :=
  l = [] ∨ ∃ b off, A = some ⟨b, off, none⟩ ∧ b < B ∧ ∀ k x, l[k]? = some x → w.cell? ⟨b, off + k * 4, none⟩ = some (.int .i64 x.size) ∧ w.cell? ⟨b, off + k * 4 + 1, none⟩ = some (.int .i64 x.start) ∧ w.cell? ⟨b, off + k * 4 + 2, none⟩ = some (.int .i64 x.stop) ∧ w.cell? ⟨b, off + k * 4 + 3, none⟩ = some (.int .i64 x.ext)
theorem stL.below {w w' : World} {B : Nat} {A : Option Addr} {l : List St} (h : stL w B A l) (hb : Below B w w') : stL w' B A l := by
  rcases h with h | ⟨b, off, rfl, hlt, hc⟩
  · exact .inl h
  · refine .inr ⟨b, off, rfl, hlt, fun k x hx => ?_⟩
    have := hc k x hx
    exact ⟨(hb.cell (p := ⟨b, off + k * 4, none⟩) hlt).trans this.1, (hb.cell (p := ⟨b, off + k * 4 + 1, none⟩) hlt).trans this.2.1, (hb.cell (p := ⟨b, off + k * 4 + 2, none⟩) hlt).trans this.2.2.1, (hb.cell (p := ⟨b, off + k * 4 + 3, none⟩) hlt).trans this.2.2.2⟩
theorem stL.at_ {w : World} {B : Nat} {A : Option Addr} {l : List St} (h : stL w B A l) {k : Nat} (hk : k < l.length) :
    ∃ b off x, A = some ⟨b, off, none⟩ ∧ b < B ∧ l[k]? = some x ∧ w.cell? ⟨b, off + k * 4, none⟩ = some (.int .i64 x.size) ∧ w.cell? ⟨b, off + k * 4 + 1, none⟩ = some (.int .i64 x.start) ∧ w.cell? ⟨b, off + k * 4 + 2, none⟩ = some (.int .i64 x.stop) ∧ w.cell? ⟨b, off + k * 4 + 3, none⟩ = some (.int .i64 x.ext) := by
  rcases h with h | ⟨b, off, rfl, hlt, hc⟩
  · subst h; simp at hk
  · exact ⟨b, off, _, rfl, hlt, List.getElem?_eq_getElem hk, hc k _ (List.getElem?_eq_getElem hk)⟩
theorem stL.later {w w' : World} {B : Nat} {A : Option Addr} {l : List St} (h : stL w B A l) (hB : B ≤ w.heap.size) (hb : Below w.heap.size w w') : stL w' B A l := h.below (hb.mono hB)
theorem stL.more {w : World} {B B' : Nat} {A : Option Addr} {l : List St} (h : stL w B A l) (hB : B ≤ B') : stL w B' A l := by
  rcases h with h | ⟨b, off, rfl, hlt, hc⟩
  · exact .inl h
  · exact .inr ⟨b, off, rfl, by omega, hc⟩
def stC (x : St) : List Value := [.int .i64 x.size, .int .i64 x.start, .int .i64 x.stop, .int .i64 x.ext]
def stV (l : List St) : List Value := l.flatMap stC
theorem stV_len (l : List St) : (stV l).length = 4 * l.length := by
  induction l with
  | nil => rfl
  | cons a r ih => simp [stV, stC] at ih ⊢; omega
theorem stV_app (l r : List St) : stV (l ++ r) = stV l ++ stV r := by simp [stV]
theorem stV_one (x : St) : stV [x] = [.int .i64 x.size, .int .i64 x.start, .int .i64 x.stop, .int .i64 x.ext] := rfl
theorem stV_at : ∀ {l : List St} {k : Nat} {x : St}, l[k]? = some x → (stV l)[k * 4]? = some (.int .i64 x.size) ∧ (stV l)[k * 4 + 1]? = some (.int .i64 x.start) ∧ (stV l)[k * 4 + 2]? = some (.int .i64 x.stop) ∧ (stV l)[k * 4 + 3]? = some (.int .i64 x.ext)
  | [], k, u, h => by simp at h
  | a :: r, 0, u, h => by
    simp at h; subst h
    exact ⟨rfl, rfl, rfl, rfl⟩
  | a :: r, k + 1, u, h => by
    have ih := stV_at (l := r) (k := k) (x := u) (by simpa using h)
    have e : stV (a :: r) = .int .i64 a.size :: .int .i64 a.start :: .int .i64 a.stop :: .int .i64 a.ext :: stV r := rfl
    rw [e, show (k + 1) * 4 = k * 4 + 1 + 1 + 1 + 1 by omega]
    exact ⟨by simpa using ih.1, by simpa using ih.2.1, by simpa using ih.2.2.1, by simpa using ih.2.2.2⟩
theorem stV_nil {l : List St} (h : stV l = []) : l = [] := by
  have := congrArg List.length h
  rw [stV_len] at this
  exact List.eq_nil_of_length_eq_zero (by simp only [List.length_nil] at this; omega)
theorem OR.st {w : World} {base : Nat} {e : TypeId} {A : Option Addr} {l : List St} (h : OR w base e A (stV l)) : stL w w.heap.size A l := by
  rcases h with h | ⟨g, cur, rfl, hb, hh, hc⟩
  · exact .inl (stV_nil h)
  · refine .inr ⟨g, 0, rfl, has_lt hh, fun k x hx => ?_⟩
    have := stV_at hx
    rw [Nat.zero_add]
    exact ⟨has_cell hh _ (hc _ _ this.1), has_cell hh _ (hc _ _ this.2.1), has_cell hh _ (hc _ _ this.2.2.1), has_cell hh _ (hc _ _ this.2.2.2)⟩
theorem OI.st {w : World} {lo hi : Nat} {e : TypeId} {A : Option Addr} {l : List St} (h : OI w lo hi e A (stV l)) : stL w w.heap.size A l := h.or_.st
theorem stV_of {l : List St} {cs : Array Value} (h : ∀ j x, j < l.length → l[j]? = some x → cs[j * 4]? = some (.int .i64 x.size) ∧ cs[j * 4 + 1]? = some (.int .i64 x.start) ∧ cs[j * 4 + 2]? = some (.int .i64 x.stop) ∧ cs[j * 4 + 3]? = some (.int .i64 x.ext)) : ∀ (j : Nat) (u : Value), (stV l)[j]? = some u → cs[j]? = some u := by
  intro j u hu
  have hj : j < 4 * l.length := by have := (List.getElem?_eq_some_iff.1 hu).1; rwa [stV_len] at this
  obtain ⟨q, r, rfl, hr⟩ : ∃ q r, j = q * 4 + r ∧ r < 4 := ⟨j / 4, j % 4, by omega, by omega⟩
  have hq : q < l.length := by omega
  have hx := List.getElem?_eq_getElem hq
  have h1 := stV_at hx
  have h2 := h q _ hq hx
  rcases r with _ | _ | _ | _ | r
  · rw [Nat.add_zero] at hu ⊢; rw [h1.1] at hu; rw [h2.1]; exact hu
  · rw [h1.2.1] at hu; rw [h2.2.1]; exact hu
  · rw [h1.2.2.1] at hu; rw [h2.2.2.1]; exact hu
  · rw [h1.2.2.2] at hu; rw [h2.2.2.2]; exact hu
  · omega
def seqst (k : Int) (m : Nat) : List St := (List.range m).map fun (j : Nat) => ⟨k + 4 * (j : Int), k + 4 * (j : Int) + 1, k + 4 * (j : Int) + 1 + 1, k + 4 * (j : Int) + 1 + 1 + 1⟩
theorem seqst_len (k : Int) (m : Nat) : (seqst k m).length = m := by simp [seqst]
theorem seqst_at {k : Int} {m j : Nat} (h : j < m) : (seqst k m)[j]? = some ⟨k + 4 * (j : Int), k + 4 * (j : Int) + 1, k + 4 * (j : Int) + 1 + 1, k + 4 * (j : Int) + 1 + 1 + 1⟩ := by simp [seqst, h]
theorem stV_seq {l : List St} {k : Int} (h : stV l = []) : stV (seqst k l.length) = [] := by rw [stV_nil h]; rfl

theorem stInfo : (Try.prog.info? 38).map (fun i => (i.zero, i.size, i.bytes)) = some (some (.agg #[.int .i64 0, .int .i64 0, .int .i64 0, .int .i64 0]), 4, 32) := by kernel_rfl

/-- block g holds the first k of the list, and has room for all of them -/
structure Copiedst (w : World) (g : Nat) (cs : Array Value) (l : List St) (k : Nat) : Prop where
  heap : Has w g 38 cs
  size : l.length * 4 ≤ cs.size
  got : ∀ j x, j < k → l[j]? = some x → cs[j * 4]? = some (.int .i64 x.size) ∧ cs[j * 4 + 1]? = some (.int .i64 x.start) ∧ cs[j * 4 + 2]? = some (.int .i64 x.stop) ∧ cs[j * 4 + 3]? = some (.int .i64 x.ext)
theorem Copiedst.below {w w' : World} {g : Nat} {cs : Array Value} {l : List St} {k : Nat} (h : Copiedst w g cs l k) (hb : Below w.heap.size w w') : Copiedst w' g cs l k := ⟨has_call h.heap hb, h.size, h.got⟩
theorem Copiedst.cellAt {w : World} {g : Nat} {cs : Array Value} {l : List St} {k j : Nat} (h : Copiedst w g cs l k) (hj : j < l.length * 4) : ∃ u, w.cell? ⟨g, j, none⟩ = some u :=
  ⟨cs[j]'(Nat.lt_of_lt_of_le hj h.size), has_cell h.heap j (Array.getElem?_eq_getElem _)⟩
theorem Copiedst.step {w : World} {g : Nat} {cs : Array Value} {l : List St} {k : Nat} (h : Copiedst w g cs l k) {x : St} (hx : l[k]? = some x) :
    Copiedst ((((w.setCell ⟨g, k * 4, none⟩ (.int .i64 x.size)).setCell ⟨g, k * 4 + 1, none⟩ (.int .i64 x.start)).setCell ⟨g, k * 4 + 2, none⟩ (.int .i64 x.stop)).setCell ⟨g, k * 4 + 3, none⟩ (.int .i64 x.ext)) g ((((cs.setIfInBounds (k * 4) (.int .i64 x.size)).setIfInBounds (k * 4 + 1) (.int .i64 x.start)).setIfInBounds (k * 4 + 2) (.int .i64 x.stop)).setIfInBounds (k * 4 + 3) (.int .i64 x.ext)) l (k + 1) := by
  have hlt : k < l.length := (List.getElem?_eq_some_iff.1 hx).1
  have hsz := h.size
  refine ⟨(has_set (has_set (has_set (has_set h.heap _ _) _ _) _ _) _ _), by simpa using h.size, fun j y hj hy => ?_⟩
  by_cases hjk : j = k
  · subst hjk
    obtain rfl : x = y := by rw [hx] at hy; injection hy
    simp only [Array.getElem?_setIfInBounds, Array.size_setIfInBounds]
    refine ⟨?_, ?_, ?_, ?_⟩
    · rw [if_neg (by omega), if_neg (by omega), if_neg (by omega), if_pos trivial, if_pos (by omega)]
    · rw [if_neg (by omega), if_neg (by omega), if_pos trivial, if_pos (by omega)]
    · rw [if_neg (by omega), if_pos trivial, if_pos (by omega)]
    · rw [if_pos trivial, if_pos (by omega)]
  · have := h.got j y (by omega) hy
    simp only [Array.getElem?_setIfInBounds]
    refine ⟨?_, ?_, ?_, ?_⟩
    all_goals rw [if_neg (by omega), if_neg (by omega), if_neg (by omega), if_neg (by omega)]
    · exact this.1
    · exact this.2.1
    · exact this.2.2.1
    · exact this.2.2.2
theorem Copiedst.put {w : World} {g : Nat} {cs : Array Value} {l : List St} {k : Nat} (h : Copiedst w g cs l l.length) (hk : k < l.length) (x : St) :
    Copiedst ((((w.setCell ⟨g, k * 4, none⟩ (.int .i64 x.size)).setCell ⟨g, k * 4 + 1, none⟩ (.int .i64 x.start)).setCell ⟨g, k * 4 + 2, none⟩ (.int .i64 x.stop)).setCell ⟨g, k * 4 + 3, none⟩ (.int .i64 x.ext)) g ((((cs.setIfInBounds (k * 4) (.int .i64 x.size)).setIfInBounds (k * 4 + 1) (.int .i64 x.start)).setIfInBounds (k * 4 + 2) (.int .i64 x.stop)).setIfInBounds (k * 4 + 3) (.int .i64 x.ext)) (l.set k x) (l.set k x).length := by
  have hsz := h.size
  refine ⟨(has_set (has_set (has_set (has_set h.heap _ _) _ _) _ _) _ _), by simpa using h.size, fun j y hj hy => ?_⟩
  rw [List.length_set] at hj
  by_cases hjk : j = k
  · subst hjk
    rw [List.getElem?_set_self hk] at hy
    obtain rfl : x = y := by injection hy
    simp only [Array.getElem?_setIfInBounds, Array.size_setIfInBounds]
    refine ⟨?_, ?_, ?_, ?_⟩
    · rw [if_neg (by omega), if_neg (by omega), if_neg (by omega), if_pos trivial, if_pos (by omega)]
    · rw [if_neg (by omega), if_neg (by omega), if_pos trivial, if_pos (by omega)]
    · rw [if_neg (by omega), if_pos trivial, if_pos (by omega)]
    · rw [if_pos trivial, if_pos (by omega)]
  · rw [List.getElem?_set_ne (fun e => hjk e.symm)] at hy
    have := h.got j y hj hy
    simp only [Array.getElem?_setIfInBounds]
    refine ⟨?_, ?_, ?_, ?_⟩
    all_goals rw [if_neg (by omega), if_neg (by omega), if_neg (by omega), if_neg (by omega)]
    · exact this.1
    · exact this.2.1
    · exact this.2.2.1
    · exact this.2.2.2
theorem Copiedst.row {w : World} {g base : Nat} {cs : Array Value} {l : List St} (h : Copiedst w g cs l l.length) (hb : base ≤ g) : OR w base 38 (some ⟨g, 0, none⟩) (stV l) :=
  .inr ⟨g, cs, rfl, hb, h.heap, stV_of h.got⟩

theorem makest_run (m : Nat) (hm : m ≤ 1048576) : ∀ W : World, (Instr.makeSlice 28 (.int .i64 (m : Int)) (.int .i64 (m : Int))).run Try.prog W = .ok (.slice (some ⟨W.heap.size, 0, none⟩) m m) (W.alloc (.cells (madeCells #[.int .i64 0, .int .i64 0, .int .i64 0, .int .i64 0] (m * 4)) 38)) := by
  intro W
  obtain ⟨i, hi, hz0, hz1, hz2⟩ := info_parts stInfo
  have := run_make (P := Try.prog) W 28 38 i _ Try.underlying28 hi hz0 .i64 .i64 (m : Int) (m : Int) (by omega) (by omega) (by rw [hz2]; omega) (by omega)
  simpa [hz1, Value.cells] using this

end Go.Proofs.Ytfkhhefphbhppaa
