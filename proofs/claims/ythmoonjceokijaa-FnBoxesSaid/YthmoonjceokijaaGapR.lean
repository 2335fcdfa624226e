/- Rows of Gap: what a slice of them reads as, and the laws' own helpers over them (gen_row.py). -/
import Derived.Test.YthmoonjceokijaaColR
import Derived.StillTailTactics
namespace Go.Proofs.Ythmoonjceokijaa
open Go.RowKit
set_option linter.unusedVariables false


structure Gp where
  col : Int
  low : Int
  size : Int
/-- a slice of them reads as the list, below block B -/
def gpL (w : World) (B : Nat) (A : Option Addr) (l : List Gp) : Prop :=
  l = [] ∨ ∃ b off, A = some ⟨b, off, none⟩ ∧ b < B ∧ ∀ k x, l[k]? = some x → w.cell? ⟨b, off + k * 3, none⟩ = some (.int .i64 x.col) ∧ w.cell? ⟨b, off + k * 3 + 1, none⟩ = some (.int .i64 x.low) ∧ w.cell? ⟨b, off + k * 3 + 2, none⟩ = some (.int .i64 x.size)
theorem gpL.below {w w' : World} {B : Nat} {A : Option Addr} {l : List Gp} (h : gpL w B A l) (hb : Below B w w') : gpL w' B A l := by
  rcases h with h | ⟨b, off, rfl, hlt, hc⟩
  · exact .inl h
  · refine .inr ⟨b, off, rfl, hlt, fun k x hx => ?_⟩
    have := hc k x hx
    exact ⟨(hb.cell (p := ⟨b, off + k * 3, none⟩) hlt).trans this.1, (hb.cell (p := ⟨b, off + k * 3 + 1, none⟩) hlt).trans this.2.1, (hb.cell (p := ⟨b, off + k * 3 + 2, none⟩) hlt).trans this.2.2⟩
theorem gpL.at_ {w : World} {B : Nat} {A : Option Addr} {l : List Gp} (h : gpL w B A l) {k : Nat} (hk : k < l.length) :
    ∃ b off x, A = some ⟨b, off, none⟩ ∧ b < B ∧ l[k]? = some x ∧ w.cell? ⟨b, off + k * 3, none⟩ = some (.int .i64 x.col) ∧ w.cell? ⟨b, off + k * 3 + 1, none⟩ = some (.int .i64 x.low) ∧ w.cell? ⟨b, off + k * 3 + 2, none⟩ = some (.int .i64 x.size) := by
  rcases h with h | ⟨b, off, rfl, hlt, hc⟩
  · subst h; simp at hk
  · exact ⟨b, off, _, rfl, hlt, List.getElem?_eq_getElem hk, hc k _ (List.getElem?_eq_getElem hk)⟩
theorem gpL.later {w w' : World} {B : Nat} {A : Option Addr} {l : List Gp} (h : gpL w B A l) (hB : B ≤ w.heap.size) (hb : Below w.heap.size w w') : gpL w' B A l := h.below (hb.mono hB)
theorem gpL.more {w : World} {B B' : Nat} {A : Option Addr} {l : List Gp} (h : gpL w B A l) (hB : B ≤ B') : gpL w B' A l := by
  rcases h with h | ⟨b, off, rfl, hlt, hc⟩
  · exact .inl h
  · exact .inr ⟨b, off, rfl, by omega, hc⟩
def gpC (x : Gp) : List Value := [.int .i64 x.col, .int .i64 x.low, .int .i64 x.size]
def gpV (l : List Gp) : List Value := l.flatMap gpC
theorem gpV_len (l : List Gp) : (gpV l).length = 3 * l.length := by
  induction l with
  | nil => rfl
  | cons a r ih => simp [gpV, gpC] at ih ⊢; omega
theorem gpV_app (l r : List Gp) : gpV (l ++ r) = gpV l ++ gpV r := by simp [gpV]
theorem gpV_one (x : Gp) : gpV [x] = [.int .i64 x.col, .int .i64 x.low, .int .i64 x.size] := rfl
theorem gpV_at : ∀ {l : List Gp} {k : Nat} {x : Gp}, l[k]? = some x → (gpV l)[k * 3]? = some (.int .i64 x.col) ∧ (gpV l)[k * 3 + 1]? = some (.int .i64 x.low) ∧ (gpV l)[k * 3 + 2]? = some (.int .i64 x.size)
  | [], k, u, h => by simp at h
  | a :: r, 0, u, h => by
    simp at h; subst h
    exact ⟨rfl, rfl, rfl⟩
  | a :: r, k + 1, u, h => by
    have ih := gpV_at (l := r) (k := k) (x := u) (by simpa using h)
    have e : gpV (a :: r) = .int .i64 a.col :: .int .i64 a.low :: .int .i64 a.size :: gpV r := rfl
    rw [e, show (k + 1) * 3 = k * 3 + 1 + 1 + 1 by omega]
    exact ⟨by simpa using ih.1, by simpa using ih.2.1, by simpa using ih.2.2⟩
theorem gpV_nil {l : List Gp} (h : gpV l = []) : l = [] := by
  have := congrArg List.length h
  rw [gpV_len] at this
  exact List.eq_nil_of_length_eq_zero (by simp only [List.length_nil] at this; omega)
theorem OR.gp {w : World} {base : Nat} {e : TypeId} {A : Option Addr} {l : List Gp} (h : OR w base e A (gpV l)) : gpL w w.heap.size A l := by
  rcases h with h | ⟨g, cur, rfl, hb, hh, hc⟩
  · exact .inl (gpV_nil h)
  · refine .inr ⟨g, 0, rfl, has_lt hh, fun k x hx => ?_⟩
    have := gpV_at hx
    rw [Nat.zero_add]
    exact ⟨has_cell hh _ (hc _ _ this.1), has_cell hh _ (hc _ _ this.2.1), has_cell hh _ (hc _ _ this.2.2)⟩
theorem OI.gp {w : World} {lo hi : Nat} {e : TypeId} {A : Option Addr} {l : List Gp} (h : OI w lo hi e A (gpV l)) : gpL w w.heap.size A l := h.or_.gp
theorem gpV_of {l : List Gp} {cs : Array Value} (h : ∀ j x, j < l.length → l[j]? = some x → cs[j * 3]? = some (.int .i64 x.col) ∧ cs[j * 3 + 1]? = some (.int .i64 x.low) ∧ cs[j * 3 + 2]? = some (.int .i64 x.size)) : ∀ (j : Nat) (u : Value), (gpV l)[j]? = some u → cs[j]? = some u := by
  intro j u hu
  have hj : j < 3 * l.length := by have := (List.getElem?_eq_some_iff.1 hu).1; rwa [gpV_len] at this
  obtain ⟨q, r, rfl, hr⟩ : ∃ q r, j = q * 3 + r ∧ r < 3 := ⟨j / 3, j % 3, by omega, by omega⟩
  have hq : q < l.length := by omega
  have hx := List.getElem?_eq_getElem hq
  have h1 := gpV_at hx
  have h2 := h q _ hq hx
  rcases r with _ | _ | _ | r
  · rw [Nat.add_zero] at hu ⊢; rw [h1.1] at hu; rw [h2.1]; exact hu
  · rw [h1.2.1] at hu; rw [h2.2.1]; exact hu
  · rw [h1.2.2] at hu; rw [h2.2.2]; exact hu
  · omega
def seqgp (k : Int) (m : Nat) : List Gp := (List.range m).map fun (j : Nat) => ⟨k + 3 * (j : Int), k + 3 * (j : Int) + 1, k + 3 * (j : Int) + 1 + 1⟩
theorem seqgp_len (k : Int) (m : Nat) : (seqgp k m).length = m := by simp [seqgp]
theorem seqgp_at {k : Int} {m j : Nat} (h : j < m) : (seqgp k m)[j]? = some ⟨k + 3 * (j : Int), k + 3 * (j : Int) + 1, k + 3 * (j : Int) + 1 + 1⟩ := by simp [seqgp, h]
theorem gpV_seq {l : List Gp} {k : Int} (h : gpV l = []) : gpV (seqgp k l.length) = [] := by rw [gpV_nil h]; rfl

theorem gpInfo : (Try.prog.info? 36).map (fun i => (i.zero, i.size, i.bytes)) = some (some (.agg #[.int .i64 0, .int .i64 0, .int .i64 0]), 3, 24) := by kernel_rfl

/-- block g holds the first k of the list, and has room for all of them -/
structure Copiedgp (w : World) (g : Nat) (cs : Array Value) (l : List Gp) (k : Nat) : Prop where
  heap : Has w g 36 cs
  size : l.length * 3 ≤ cs.size
  got : ∀ j x, j < k → l[j]? = some x → cs[j * 3]? = some (.int .i64 x.col) ∧ cs[j * 3 + 1]? = some (.int .i64 x.low) ∧ cs[j * 3 + 2]? = some (.int .i64 x.size)
theorem Copiedgp.below {w w' : World} {g : Nat} {cs : Array Value} {l : List Gp} {k : Nat} (h : Copiedgp w g cs l k) (hb : Below w.heap.size w w') : Copiedgp w' g cs l k := ⟨has_call h.heap hb, h.size, h.got⟩
theorem Copiedgp.cellAt {w : World} {g : Nat} {cs : Array Value} {l : List Gp} {k j : Nat} (h : Copiedgp w g cs l k) (hj : j < l.length * 3) : ∃ u, w.cell? ⟨g, j, none⟩ = some u :=
  ⟨cs[j]'(Nat.lt_of_lt_of_le hj h.size), has_cell h.heap j (Array.getElem?_eq_getElem _)⟩
theorem Copiedgp.step {w : World} {g : Nat} {cs : Array Value} {l : List Gp} {k : Nat} (h : Copiedgp w g cs l k) {x : Gp} (hx : l[k]? = some x) :
    Copiedgp (((w.setCell ⟨g, k * 3, none⟩ (.int .i64 x.col)).setCell ⟨g, k * 3 + 1, none⟩ (.int .i64 x.low)).setCell ⟨g, k * 3 + 2, none⟩ (.int .i64 x.size)) g (((cs.setIfInBounds (k * 3) (.int .i64 x.col)).setIfInBounds (k * 3 + 1) (.int .i64 x.low)).setIfInBounds (k * 3 + 2) (.int .i64 x.size)) l (k + 1) := by
  have hlt : k < l.length := (List.getElem?_eq_some_iff.1 hx).1
  have hsz := h.size
  refine ⟨(has_set (has_set (has_set h.heap _ _) _ _) _ _), by simpa using h.size, fun j y hj hy => ?_⟩
  by_cases hjk : j = k
  · subst hjk
    obtain rfl : x = y := by rw [hx] at hy; injection hy
    simp only [Array.getElem?_setIfInBounds, Array.size_setIfInBounds]
    refine ⟨?_, ?_, ?_⟩
    · rw [if_neg (by omega), if_neg (by omega), if_pos trivial, if_pos (by omega)]
    · rw [if_neg (by omega), if_pos trivial, if_pos (by omega)]
    · rw [if_pos trivial, if_pos (by omega)]
  · have := h.got j y (by omega) hy
    simp only [Array.getElem?_setIfInBounds]
    refine ⟨?_, ?_, ?_⟩
    all_goals rw [if_neg (by omega), if_neg (by omega), if_neg (by omega)]
    · exact this.1
    · exact this.2.1
    · exact this.2.2
theorem Copiedgp.put {w : World} {g : Nat} {cs : Array Value} {l : List Gp} {k : Nat} (h : Copiedgp w g cs l l.length) (hk : k < l.length) (x : Gp) :
    Copiedgp (((w.setCell ⟨g, k * 3, none⟩ (.int .i64 x.col)).setCell ⟨g, k * 3 + 1, none⟩ (.int .i64 x.low)).setCell ⟨g, k * 3 + 2, none⟩ (.int .i64 x.size)) g (((cs.setIfInBounds (k * 3) (.int .i64 x.col)).setIfInBounds (k * 3 + 1) (.int .i64 x.low)).setIfInBounds (k * 3 + 2) (.int .i64 x.size)) (l.set k x) (l.set k x).length := by
  have hsz := h.size
  refine ⟨(has_set (has_set (has_set h.heap _ _) _ _) _ _), by simpa using h.size, fun j y hj hy => ?_⟩
  rw [List.length_set] at hj
  by_cases hjk : j = k
  · subst hjk
    rw [List.getElem?_set_self hk] at hy
    obtain rfl : x = y := by injection hy
    simp only [Array.getElem?_setIfInBounds, Array.size_setIfInBounds]
    refine ⟨?_, ?_, ?_⟩
    · rw [if_neg (by omega), if_neg (by omega), if_pos trivial, if_pos (by omega)]
    · rw [if_neg (by omega), if_pos trivial, if_pos (by omega)]
    · rw [if_pos trivial, if_pos (by omega)]
  · rw [List.getElem?_set_ne (fun e => hjk e.symm)] at hy
    have := h.got j y hj hy
    simp only [Array.getElem?_setIfInBounds]
    refine ⟨?_, ?_, ?_⟩
    all_goals rw [if_neg (by omega), if_neg (by omega), if_neg (by omega)]
    · exact this.1
    · exact this.2.1
    · exact this.2.2
theorem Copiedgp.row {w : World} {g base : Nat} {cs : Array Value} {l : List Gp} (h : Copiedgp w g cs l l.length) (hb : base ≤ g) : OR w base 36 (some ⟨g, 0, none⟩) (gpV l) :=
  .inr ⟨g, cs, rfl, hb, h.heap, gpV_of h.got⟩

theorem makegp_run (m : Nat) (hm : m ≤ 1048576) : ∀ W : World, (Instr.makeSlice 41 (.int .i64 (m : Int)) (.int .i64 (m : Int))).run Try.prog W = .ok (.slice (some ⟨W.heap.size, 0, none⟩) m m) (W.alloc (.cells (madeCells #[.int .i64 0, .int .i64 0, .int .i64 0] (m * 3)) 36)) := by
  intro W
  obtain ⟨i, hi, hz0, hz1, hz2⟩ := info_parts gpInfo
  have := run_make (P := Try.prog) W 41 36 i _ Try.underlying41 hi hz0 .i64 .i64 (m : Int) (m : Int) (by omega) (by omega) (by rw [hz2]; omega) (by omega)
  simpa [hz1, Value.cells] using this

end Go.Proofs.Ythmoonjceokijaa
