/- Rows of Stop: what a slice of them reads as, and the laws' own helpers over them (gen_row.py). -/
import Derived.Test.YtfimdhbcifjioaaOwn
import Derived.Test.YtfimdhbcifjioaaRng
import Derived.Test.YtfimdhbcifjioaaTouP
import Derived.StillTailTactics
namespace Go.Proofs.Ytfimdhbcifjioaa
open Go.RowKit
set_option linter.unusedVariables false


/-- a slice of them reads as the list, below block B -/
def spL (w : World) (B : Nat) (A : Option Addr) (l : List Sp) : Prop :=
  l = [] ∨ ∃ b off, A = some ⟨b, off, none⟩ ∧ b < B ∧ ∀ k x, l[k]? = some x → w.cell? ⟨b, off + k * 5, none⟩ = some (.int .i64 x.start) ∧ w.cell? ⟨b, off + k * 5 + 1, none⟩ = some (.int .i64 x.stop) ∧ w.cell? ⟨b, off + k * 5 + 2, none⟩ = some (.int .i64 x.work) ∧ w.cell? ⟨b, off + k * 5 + 3, none⟩ = some (.int .i64 x.bring) ∧ w.cell? ⟨b, off + k * 5 + 4, none⟩ = some (.int .i64 x.fetch)
theorem spL.below {w w' : World} {B : Nat} {A : Option Addr} {l : List Sp} (h : spL w B A l) (hb : Below B w w') : spL w' B A l := by
  rcases h with h | ⟨b, off, rfl, hlt, hc⟩
  · exact .inl h
  · refine .inr ⟨b, off, rfl, hlt, fun k x hx => ?_⟩
    have := hc k x hx
    exact ⟨(hb.cell (p := ⟨b, off + k * 5, none⟩) hlt).trans this.1, (hb.cell (p := ⟨b, off + k * 5 + 1, none⟩) hlt).trans this.2.1, (hb.cell (p := ⟨b, off + k * 5 + 2, none⟩) hlt).trans this.2.2.1, (hb.cell (p := ⟨b, off + k * 5 + 3, none⟩) hlt).trans this.2.2.2.1, (hb.cell (p := ⟨b, off + k * 5 + 4, none⟩) hlt).trans this.2.2.2.2⟩
theorem spL.at_ {w : World} {B : Nat} {A : Option Addr} {l : List Sp} (h : spL w B A l) {k : Nat} (hk : k < l.length) :
    ∃ b off x, A = some ⟨b, off, none⟩ ∧ b < B ∧ l[k]? = some x ∧ w.cell? ⟨b, off + k * 5, none⟩ = some (.int .i64 x.start) ∧ w.cell? ⟨b, off + k * 5 + 1, none⟩ = some (.int .i64 x.stop) ∧ w.cell? ⟨b, off + k * 5 + 2, none⟩ = some (.int .i64 x.work) ∧ w.cell? ⟨b, off + k * 5 + 3, none⟩ = some (.int .i64 x.bring) ∧ w.cell? ⟨b, off + k * 5 + 4, none⟩ = some (.int .i64 x.fetch) := by
  rcases h with h | ⟨b, off, rfl, hlt, hc⟩
  · subst h; simp at hk
  · exact ⟨b, off, _, rfl, hlt, List.getElem?_eq_getElem hk, hc k _ (List.getElem?_eq_getElem hk)⟩
theorem spL.later {w w' : World} {B : Nat} {A : Option Addr} {l : List Sp} (h : spL w B A l) (hB : B ≤ w.heap.size) (hb : Below w.heap.size w w') : spL w' B A l := h.below (hb.mono hB)
theorem spL.more {w : World} {B B' : Nat} {A : Option Addr} {l : List Sp} (h : spL w B A l) (hB : B ≤ B') : spL w B' A l := by
  rcases h with h | ⟨b, off, rfl, hlt, hc⟩
  · exact .inl h
  · exact .inr ⟨b, off, rfl, by omega, hc⟩
def spC (x : Sp) : List Value := [.int .i64 x.start, .int .i64 x.stop, .int .i64 x.work, .int .i64 x.bring, .int .i64 x.fetch]
def spV (l : List Sp) : List Value := l.flatMap spC
theorem spV_len (l : List Sp) : (spV l).length = 5 * l.length := by
  induction l with
  | nil => rfl
  | cons a r ih => simp [spV, spC] at ih ⊢; omega
theorem spV_app (l r : List Sp) : spV (l ++ r) = spV l ++ spV r := by simp [spV]
theorem spV_one (x : Sp) : spV [x] = [.int .i64 x.start, .int .i64 x.stop, .int .i64 x.work, .int .i64 x.bring, .int .i64 x.fetch] := rfl
theorem spV_at : ∀ {l : List Sp} {k : Nat} {x : Sp}, l[k]? = some x → (spV l)[k * 5]? = some (.int .i64 x.start) ∧ (spV l)[k * 5 + 1]? = some (.int .i64 x.stop) ∧ (spV l)[k * 5 + 2]? = some (.int .i64 x.work) ∧ (spV l)[k * 5 + 3]? = some (.int .i64 x.bring) ∧ (spV l)[k * 5 + 4]? = some (.int .i64 x.fetch)
  | [], k, u, h => by simp at h
  | a :: r, 0, u, h => by
    simp at h; subst h
    exact ⟨rfl, rfl, rfl, rfl, rfl⟩
  | a :: r, k + 1, u, h => by
    have ih := spV_at (l := r) (k := k) (x := u) (by simpa using h)
    have e : spV (a :: r) = .int .i64 a.start :: .int .i64 a.stop :: .int .i64 a.work :: .int .i64 a.bring :: .int .i64 a.fetch :: spV r := rfl
    rw [e, show (k + 1) * 5 = k * 5 + 1 + 1 + 1 + 1 + 1 by omega]
    exact ⟨by simpa using ih.1, by simpa using ih.2.1, by simpa using ih.2.2.1, by simpa using ih.2.2.2.1, by simpa using ih.2.2.2.2⟩
theorem spV_nil {l : List Sp} (h : spV l = []) : l = [] := by
  have := congrArg List.length h
  rw [spV_len] at this
  exact List.eq_nil_of_length_eq_zero (by simp only [List.length_nil] at this; omega)
theorem OR.sp {w : World} {base : Nat} {e : TypeId} {A : Option Addr} {l : List Sp} (h : OR w base e A (spV l)) : spL w w.heap.size A l := by
  rcases h with h | ⟨g, cur, rfl, hb, hh, hc⟩
  · exact .inl (spV_nil h)
  · refine .inr ⟨g, 0, rfl, has_lt hh, fun k x hx => ?_⟩
    have := spV_at hx
    rw [Nat.zero_add]
    exact ⟨has_cell hh _ (hc _ _ this.1), has_cell hh _ (hc _ _ this.2.1), has_cell hh _ (hc _ _ this.2.2.1), has_cell hh _ (hc _ _ this.2.2.2.1), has_cell hh _ (hc _ _ this.2.2.2.2)⟩
theorem OI.sp {w : World} {lo hi : Nat} {e : TypeId} {A : Option Addr} {l : List Sp} (h : OI w lo hi e A (spV l)) : spL w w.heap.size A l := h.or_.sp
theorem spV_of {l : List Sp} {cs : Array Value} (h : ∀ j x, j < l.length → l[j]? = some x → cs[j * 5]? = some (.int .i64 x.start) ∧ cs[j * 5 + 1]? = some (.int .i64 x.stop) ∧ cs[j * 5 + 2]? = some (.int .i64 x.work) ∧ cs[j * 5 + 3]? = some (.int .i64 x.bring) ∧ cs[j * 5 + 4]? = some (.int .i64 x.fetch)) : ∀ (j : Nat) (u : Value), (spV l)[j]? = some u → cs[j]? = some u := by
  intro j u hu
  have hj : j < 5 * l.length := by have := (List.getElem?_eq_some_iff.1 hu).1; rwa [spV_len] at this
  obtain ⟨q, r, rfl, hr⟩ : ∃ q r, j = q * 5 + r ∧ r < 5 := ⟨j / 5, j % 5, by omega, by omega⟩
  have hq : q < l.length := by omega
  have hx := List.getElem?_eq_getElem hq
  have h1 := spV_at hx
  have h2 := h q _ hq hx
  rcases r with _ | _ | _ | _ | _ | r
  · rw [Nat.add_zero] at hu ⊢; rw [h1.1] at hu; rw [h2.1]; exact hu
  · rw [h1.2.1] at hu; rw [h2.2.1]; exact hu
  · rw [h1.2.2.1] at hu; rw [h2.2.2.1]; exact hu
  · rw [h1.2.2.2.1] at hu; rw [h2.2.2.2.1]; exact hu
  · rw [h1.2.2.2.2] at hu; rw [h2.2.2.2.2]; exact hu
  · omega
def seqsp (k : Int) (m : Nat) : List Sp := (List.range m).map fun (j : Nat) => ⟨k + 5 * (j : Int), k + 5 * (j : Int) + 1, k + 5 * (j : Int) + 1 + 1, k + 5 * (j : Int) + 1 + 1 + 1, k + 5 * (j : Int) + 1 + 1 + 1 + 1⟩
theorem seqsp_len (k : Int) (m : Nat) : (seqsp k m).length = m := by simp [seqsp]
theorem seqsp_at {k : Int} {m j : Nat} (h : j < m) : (seqsp k m)[j]? = some ⟨k + 5 * (j : Int), k + 5 * (j : Int) + 1, k + 5 * (j : Int) + 1 + 1, k + 5 * (j : Int) + 1 + 1 + 1, k + 5 * (j : Int) + 1 + 1 + 1 + 1⟩ := by simp [seqsp, h]
theorem spV_seq {l : List Sp} {k : Int} (h : spV l = []) : spV (seqsp k l.length) = [] := by rw [spV_nil h]; rfl

theorem spInfo : (Try.prog.info? 50).map (fun i => (i.zero, i.size, i.bytes)) = some (some (.agg #[.int .i64 0, .int .i64 0, .int .i64 0, .int .i64 0, .int .i64 0]), 5, 40) := by kernel_rfl

/-- block g holds the first k of the list, and has room for all of them -/
structure Copiedsp (w : World) (g : Nat) (cs : Array Value) (l : List Sp) (k : Nat) : Prop where
  heap : Has w g 50 cs
  size : l.length * 5 ≤ cs.size
  got : ∀ j x, j < k → l[j]? = some x → cs[j * 5]? = some (.int .i64 x.start) ∧ cs[j * 5 + 1]? = some (.int .i64 x.stop) ∧ cs[j * 5 + 2]? = some (.int .i64 x.work) ∧ cs[j * 5 + 3]? = some (.int .i64 x.bring) ∧ cs[j * 5 + 4]? = some (.int .i64 x.fetch)
theorem Copiedsp.below {w w' : World} {g : Nat} {cs : Array Value} {l : List Sp} {k : Nat} (h : Copiedsp w g cs l k) (hb : Below w.heap.size w w') : Copiedsp w' g cs l k := ⟨has_call h.heap hb, h.size, h.got⟩
theorem Copiedsp.cellAt {w : World} {g : Nat} {cs : Array Value} {l : List Sp} {k j : Nat} (h : Copiedsp w g cs l k) (hj : j < l.length * 5) : ∃ u, w.cell? ⟨g, j, none⟩ = some u :=
  ⟨cs[j]'(Nat.lt_of_lt_of_le hj h.size), has_cell h.heap j (Array.getElem?_eq_getElem _)⟩
theorem Copiedsp.step {w : World} {g : Nat} {cs : Array Value} {l : List Sp} {k : Nat} (h : Copiedsp w g cs l k) {x : Sp} (hx : l[k]? = some x) :
    Copiedsp (((((w.setCell ⟨g, k * 5, none⟩ (.int .i64 x.start)).setCell ⟨g, k * 5 + 1, none⟩ (.int .i64 x.stop)).setCell ⟨g, k * 5 + 2, none⟩ (.int .i64 x.work)).setCell ⟨g, k * 5 + 3, none⟩ (.int .i64 x.bring)).setCell ⟨g, k * 5 + 4, none⟩ (.int .i64 x.fetch)) g (((((cs.setIfInBounds (k * 5) (.int .i64 x.start)).setIfInBounds (k * 5 + 1) (.int .i64 x.stop)).setIfInBounds (k * 5 + 2) (.int .i64 x.work)).setIfInBounds (k * 5 + 3) (.int .i64 x.bring)).setIfInBounds (k * 5 + 4) (.int .i64 x.fetch)) l (k + 1) := by
  have hlt : k < l.length := (List.getElem?_eq_some_iff.1 hx).1
  have hsz := h.size
  refine ⟨(has_set (has_set (has_set (has_set (has_set h.heap _ _) _ _) _ _) _ _) _ _), by simpa using h.size, fun j y hj hy => ?_⟩
  by_cases hjk : j = k
  · subst hjk
    obtain rfl : x = y := by rw [hx] at hy; injection hy
    simp only [Array.getElem?_setIfInBounds, Array.size_setIfInBounds]
    refine ⟨?_, ?_, ?_, ?_, ?_⟩
    · rw [if_neg (by omega), if_neg (by omega), if_neg (by omega), if_neg (by omega), if_pos trivial, if_pos (by omega)]
    · rw [if_neg (by omega), if_neg (by omega), if_neg (by omega), if_pos trivial, if_pos (by omega)]
    · rw [if_neg (by omega), if_neg (by omega), if_pos trivial, if_pos (by omega)]
    · rw [if_neg (by omega), if_pos trivial, if_pos (by omega)]
    · rw [if_pos trivial, if_pos (by omega)]
  · have := h.got j y (by omega) hy
    simp only [Array.getElem?_setIfInBounds]
    refine ⟨?_, ?_, ?_, ?_, ?_⟩
    all_goals rw [if_neg (by omega), if_neg (by omega), if_neg (by omega), if_neg (by omega), if_neg (by omega)]
    · exact this.1
    · exact this.2.1
    · exact this.2.2.1
    · exact this.2.2.2.1
    · exact this.2.2.2.2
theorem Copiedsp.put {w : World} {g : Nat} {cs : Array Value} {l : List Sp} {k : Nat} (h : Copiedsp w g cs l l.length) (hk : k < l.length) (x : Sp) :
    Copiedsp (((((w.setCell ⟨g, k * 5, none⟩ (.int .i64 x.start)).setCell ⟨g, k * 5 + 1, none⟩ (.int .i64 x.stop)).setCell ⟨g, k * 5 + 2, none⟩ (.int .i64 x.work)).setCell ⟨g, k * 5 + 3, none⟩ (.int .i64 x.bring)).setCell ⟨g, k * 5 + 4, none⟩ (.int .i64 x.fetch)) g (((((cs.setIfInBounds (k * 5) (.int .i64 x.start)).setIfInBounds (k * 5 + 1) (.int .i64 x.stop)).setIfInBounds (k * 5 + 2) (.int .i64 x.work)).setIfInBounds (k * 5 + 3) (.int .i64 x.bring)).setIfInBounds (k * 5 + 4) (.int .i64 x.fetch)) (l.set k x) (l.set k x).length := by
  have hsz := h.size
  refine ⟨(has_set (has_set (has_set (has_set (has_set h.heap _ _) _ _) _ _) _ _) _ _), by simpa using h.size, fun j y hj hy => ?_⟩
  rw [List.length_set] at hj
  by_cases hjk : j = k
  · subst hjk
    rw [List.getElem?_set_self hk] at hy
    obtain rfl : x = y := by injection hy
    simp only [Array.getElem?_setIfInBounds, Array.size_setIfInBounds]
    refine ⟨?_, ?_, ?_, ?_, ?_⟩
    · rw [if_neg (by omega), if_neg (by omega), if_neg (by omega), if_neg (by omega), if_pos trivial, if_pos (by omega)]
    · rw [if_neg (by omega), if_neg (by omega), if_neg (by omega), if_pos trivial, if_pos (by omega)]
    · rw [if_neg (by omega), if_neg (by omega), if_pos trivial, if_pos (by omega)]
    · rw [if_neg (by omega), if_pos trivial, if_pos (by omega)]
    · rw [if_pos trivial, if_pos (by omega)]
  · rw [List.getElem?_set_ne (fun e => hjk e.symm)] at hy
    have := h.got j y hj hy
    simp only [Array.getElem?_setIfInBounds]
    refine ⟨?_, ?_, ?_, ?_, ?_⟩
    all_goals rw [if_neg (by omega), if_neg (by omega), if_neg (by omega), if_neg (by omega), if_neg (by omega)]
    · exact this.1
    · exact this.2.1
    · exact this.2.2.1
    · exact this.2.2.2.1
    · exact this.2.2.2.2
theorem Copiedsp.row {w : World} {g base : Nat} {cs : Array Value} {l : List Sp} (h : Copiedsp w g cs l l.length) (hb : base ≤ g) : OR w base 50 (some ⟨g, 0, none⟩) (spV l) :=
  .inr ⟨g, cs, rfl, hb, h.heap, spV_of h.got⟩

theorem makesp_run (m : Nat) (hm : m ≤ 1048576) : ∀ W : World, (Instr.makeSlice 25 (.int .i64 (m : Int)) (.int .i64 (m : Int))).run Try.prog W = .ok (.slice (some ⟨W.heap.size, 0, none⟩) m m) (W.alloc (.cells (madeCells #[.int .i64 0, .int .i64 0, .int .i64 0, .int .i64 0, .int .i64 0] (m * 5)) 50)) := by
  intro W
  obtain ⟨i, hi, hz0, hz1, hz2⟩ := info_parts spInfo
  have := run_make (P := Try.prog) W 25 50 i _ Try.underlying25 hi hz0 .i64 .i64 (m : Int) (m : Int) (by omega) (by omega) (by rw [hz2]; omega) (by omega)
  simpa [hz1, Value.cells] using this

end Go.Proofs.Ytfimdhbcifjioaa
