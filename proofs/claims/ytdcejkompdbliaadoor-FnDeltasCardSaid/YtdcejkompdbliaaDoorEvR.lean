/- Rows of Event: what a slice of them reads as, and the laws' own helpers over them (gen_row.py). -/
import Derived.Test.YtdcejkompdbliaaDoorEvP
import Derived.Test.YtdcejkompdbliaaDoorRng
import Derived.StillTailTactics
namespace Go.Proofs.YtdcejkompdbliaaDoor
open Go.RowKit
set_option linter.unusedVariables false


/-- a slice of them reads as the list, below block B -/
def evL (w : World) (B : Nat) (A : Option Addr) (l : List Ev) : Prop :=
  l = [] ∨ ∃ b off, A = some ⟨b, off, none⟩ ∧ b < B ∧ ∀ k x, l[k]? = some x → w.cell? ⟨b, off + k * 7, none⟩ = some (.int .i64 x.nod) ∧ w.cell? ⟨b, off + k * 7 + 1, none⟩ = some (.int .i64 x.seq) ∧ w.cell? ⟨b, off + k * 7 + 2, none⟩ = some (.int .i64 x.stm) ∧ w.cell? ⟨b, off + k * 7 + 3, none⟩ = some (.int .i64 x.knd) ∧ w.cell? ⟨b, off + k * 7 + 4, none⟩ = some (.int .i64 x.par) ∧ w.cell? ⟨b, off + k * 7 + 5, none⟩ = some (.int .i64 x.aa) ∧ w.cell? ⟨b, off + k * 7 + 6, none⟩ = some (.int .i64 x.bb)
theorem evL.below {w w' : World} {B : Nat} {A : Option Addr} {l : List Ev} (h : evL w B A l) (hb : Below B w w') : evL w' B A l := by
  rcases h with h | ⟨b, off, rfl, hlt, hc⟩
  · exact .inl h
  · refine .inr ⟨b, off, rfl, hlt, fun k x hx => ?_⟩
    have := hc k x hx
    exact ⟨(hb.cell (p := ⟨b, off + k * 7, none⟩) hlt).trans this.1, (hb.cell (p := ⟨b, off + k * 7 + 1, none⟩) hlt).trans this.2.1, (hb.cell (p := ⟨b, off + k * 7 + 2, none⟩) hlt).trans this.2.2.1, (hb.cell (p := ⟨b, off + k * 7 + 3, none⟩) hlt).trans this.2.2.2.1, (hb.cell (p := ⟨b, off + k * 7 + 4, none⟩) hlt).trans this.2.2.2.2.1, (hb.cell (p := ⟨b, off + k * 7 + 5, none⟩) hlt).trans this.2.2.2.2.2.1, (hb.cell (p := ⟨b, off + k * 7 + 6, none⟩) hlt).trans this.2.2.2.2.2.2⟩
theorem evL.at_ {w : World} {B : Nat} {A : Option Addr} {l : List Ev} (h : evL w B A l) {k : Nat} (hk : k < l.length) :
    ∃ b off x, A = some ⟨b, off, none⟩ ∧ b < B ∧ l[k]? = some x ∧ w.cell? ⟨b, off + k * 7, none⟩ = some (.int .i64 x.nod) ∧ w.cell? ⟨b, off + k * 7 + 1, none⟩ = some (.int .i64 x.seq) ∧ w.cell? ⟨b, off + k * 7 + 2, none⟩ = some (.int .i64 x.stm) ∧ w.cell? ⟨b, off + k * 7 + 3, none⟩ = some (.int .i64 x.knd) ∧ w.cell? ⟨b, off + k * 7 + 4, none⟩ = some (.int .i64 x.par) ∧ w.cell? ⟨b, off + k * 7 + 5, none⟩ = some (.int .i64 x.aa) ∧ w.cell? ⟨b, off + k * 7 + 6, none⟩ = some (.int .i64 x.bb) := by
  rcases h with h | ⟨b, off, rfl, hlt, hc⟩
  · subst h; simp at hk
  · exact ⟨b, off, _, rfl, hlt, List.getElem?_eq_getElem hk, hc k _ (List.getElem?_eq_getElem hk)⟩
theorem evL.later {w w' : World} {B : Nat} {A : Option Addr} {l : List Ev} (h : evL w B A l) (hB : B ≤ w.heap.size) (hb : Below w.heap.size w w') : evL w' B A l := h.below (hb.mono hB)
theorem evL.more {w : World} {B B' : Nat} {A : Option Addr} {l : List Ev} (h : evL w B A l) (hB : B ≤ B') : evL w B' A l := by
  rcases h with h | ⟨b, off, rfl, hlt, hc⟩
  · exact .inl h
  · exact .inr ⟨b, off, rfl, by omega, hc⟩
def evC (x : Ev) : List Value := [.int .i64 x.nod, .int .i64 x.seq, .int .i64 x.stm, .int .i64 x.knd, .int .i64 x.par, .int .i64 x.aa, .int .i64 x.bb]
def evV (l : List Ev) : List Value := l.flatMap evC
theorem evV_len (l : List Ev) : (evV l).length = 7 * l.length := by
  induction l with
  | nil => rfl
  | cons a r ih => simp [evV, evC] at ih ⊢; omega
theorem evV_app (l r : List Ev) : evV (l ++ r) = evV l ++ evV r := by simp [evV]
theorem evV_one (x : Ev) : evV [x] = [.int .i64 x.nod, .int .i64 x.seq, .int .i64 x.stm, .int .i64 x.knd, .int .i64 x.par, .int .i64 x.aa, .int .i64 x.bb] := rfl
theorem evV_at : ∀ {l : List Ev} {k : Nat} {x : Ev}, l[k]? = some x → (evV l)[k * 7]? = some (.int .i64 x.nod) ∧ (evV l)[k * 7 + 1]? = some (.int .i64 x.seq) ∧ (evV l)[k * 7 + 2]? = some (.int .i64 x.stm) ∧ (evV l)[k * 7 + 3]? = some (.int .i64 x.knd) ∧ (evV l)[k * 7 + 4]? = some (.int .i64 x.par) ∧ (evV l)[k * 7 + 5]? = some (.int .i64 x.aa) ∧ (evV l)[k * 7 + 6]? = some (.int .i64 x.bb)
  | [], k, u, h => by simp at h
  | a :: r, 0, u, h => by
    simp at h; subst h
    exact ⟨rfl, rfl, rfl, rfl, rfl, rfl, rfl⟩
  | a :: r, k + 1, u, h => by
    have ih := evV_at (l := r) (k := k) (x := u) (by simpa using h)
    have e : evV (a :: r) = .int .i64 a.nod :: .int .i64 a.seq :: .int .i64 a.stm :: .int .i64 a.knd :: .int .i64 a.par :: .int .i64 a.aa :: .int .i64 a.bb :: evV r := rfl
    rw [e, show (k + 1) * 7 = k * 7 + 1 + 1 + 1 + 1 + 1 + 1 + 1 by omega]
    exact ⟨by simpa using ih.1, by simpa using ih.2.1, by simpa using ih.2.2.1, by simpa using ih.2.2.2.1, by simpa using ih.2.2.2.2.1, by simpa using ih.2.2.2.2.2.1, by simpa using ih.2.2.2.2.2.2⟩
theorem evV_nil {l : List Ev} (h : evV l = []) : l = [] := by
  have := congrArg List.length h
  rw [evV_len] at this
  exact List.eq_nil_of_length_eq_zero (by simp only [List.length_nil] at this; omega)
theorem OR.ev {w : World} {base : Nat} {e : TypeId} {A : Option Addr} {l : List Ev} (h : OR w base e A (evV l)) : evL w w.heap.size A l := by
  rcases h with h | ⟨g, cur, rfl, hb, hh, hc⟩
  · exact .inl (evV_nil h)
  · refine .inr ⟨g, 0, rfl, has_lt hh, fun k x hx => ?_⟩
    have := evV_at hx
    rw [Nat.zero_add]
    exact ⟨has_cell hh _ (hc _ _ this.1), has_cell hh _ (hc _ _ this.2.1), has_cell hh _ (hc _ _ this.2.2.1), has_cell hh _ (hc _ _ this.2.2.2.1), has_cell hh _ (hc _ _ this.2.2.2.2.1), has_cell hh _ (hc _ _ this.2.2.2.2.2.1), has_cell hh _ (hc _ _ this.2.2.2.2.2.2)⟩
theorem OI.ev {w : World} {lo hi : Nat} {e : TypeId} {A : Option Addr} {l : List Ev} (h : OI w lo hi e A (evV l)) : evL w w.heap.size A l := h.or_.ev
theorem evV_of {l : List Ev} {cs : Array Value} (h : ∀ j x, j < l.length → l[j]? = some x → cs[j * 7]? = some (.int .i64 x.nod) ∧ cs[j * 7 + 1]? = some (.int .i64 x.seq) ∧ cs[j * 7 + 2]? = some (.int .i64 x.stm) ∧ cs[j * 7 + 3]? = some (.int .i64 x.knd) ∧ cs[j * 7 + 4]? = some (.int .i64 x.par) ∧ cs[j * 7 + 5]? = some (.int .i64 x.aa) ∧ cs[j * 7 + 6]? = some (.int .i64 x.bb)) : ∀ (j : Nat) (u : Value), (evV l)[j]? = some u → cs[j]? = some u := by
  intro j u hu
  have hj : j < 7 * l.length := by have := (List.getElem?_eq_some_iff.1 hu).1; rwa [evV_len] at this
  obtain ⟨q, r, rfl, hr⟩ : ∃ q r, j = q * 7 + r ∧ r < 7 := ⟨j / 7, j % 7, by omega, by omega⟩
  have hq : q < l.length := by omega
  have hx := List.getElem?_eq_getElem hq
  have h1 := evV_at hx
  have h2 := h q _ hq hx
  rcases r with _ | _ | _ | _ | _ | _ | _ | r
  · rw [Nat.add_zero] at hu ⊢; rw [h1.1] at hu; rw [h2.1]; exact hu
  · rw [h1.2.1] at hu; rw [h2.2.1]; exact hu
  · rw [h1.2.2.1] at hu; rw [h2.2.2.1]; exact hu
  · rw [h1.2.2.2.1] at hu; rw [h2.2.2.2.1]; exact hu
  · rw [h1.2.2.2.2.1] at hu; rw [h2.2.2.2.2.1]; exact hu
  · rw [h1.2.2.2.2.2.1] at hu; rw [h2.2.2.2.2.2.1]; exact hu
  · rw [h1.2.2.2.2.2.2] at hu; rw [h2.2.2.2.2.2.2]; exact hu
  · omega
def seqev (k : Int) (m : Nat) : List Ev := (List.range m).map fun (j : Nat) => ⟨k + 7 * (j : Int), k + 7 * (j : Int) + 1, k + 7 * (j : Int) + 1 + 1, k + 7 * (j : Int) + 1 + 1 + 1, k + 7 * (j : Int) + 1 + 1 + 1 + 1, k + 7 * (j : Int) + 1 + 1 + 1 + 1 + 1, k + 7 * (j : Int) + 1 + 1 + 1 + 1 + 1 + 1⟩
theorem seqev_len (k : Int) (m : Nat) : (seqev k m).length = m := by simp [seqev]
theorem seqev_at {k : Int} {m j : Nat} (h : j < m) : (seqev k m)[j]? = some ⟨k + 7 * (j : Int), k + 7 * (j : Int) + 1, k + 7 * (j : Int) + 1 + 1, k + 7 * (j : Int) + 1 + 1 + 1, k + 7 * (j : Int) + 1 + 1 + 1 + 1, k + 7 * (j : Int) + 1 + 1 + 1 + 1 + 1, k + 7 * (j : Int) + 1 + 1 + 1 + 1 + 1 + 1⟩ := by simp [seqev, h]
theorem evV_seq {l : List Ev} {k : Int} (h : evV l = []) : evV (seqev k l.length) = [] := by rw [evV_nil h]; rfl

theorem evInfo : (Tryd.prog.info? 40).map (fun i => (i.zero, i.size, i.bytes)) = some (some (.agg #[.int .i64 0, .int .i64 0, .int .i64 0, .int .i64 0, .int .i64 0, .int .i64 0, .int .i64 0]), 7, 56) := by kernel_rfl

/-- block g holds the first k of the list, and has room for all of them -/
structure Copiedev (w : World) (g : Nat) (cs : Array Value) (l : List Ev) (k : Nat) : Prop where
  heap : Has w g 40 cs
  size : l.length * 7 ≤ cs.size
  got : ∀ j x, j < k → l[j]? = some x → cs[j * 7]? = some (.int .i64 x.nod) ∧ cs[j * 7 + 1]? = some (.int .i64 x.seq) ∧ cs[j * 7 + 2]? = some (.int .i64 x.stm) ∧ cs[j * 7 + 3]? = some (.int .i64 x.knd) ∧ cs[j * 7 + 4]? = some (.int .i64 x.par) ∧ cs[j * 7 + 5]? = some (.int .i64 x.aa) ∧ cs[j * 7 + 6]? = some (.int .i64 x.bb)
theorem Copiedev.below {w w' : World} {g : Nat} {cs : Array Value} {l : List Ev} {k : Nat} (h : Copiedev w g cs l k) (hb : Below w.heap.size w w') : Copiedev w' g cs l k := ⟨has_call h.heap hb, h.size, h.got⟩
theorem Copiedev.cellAt {w : World} {g : Nat} {cs : Array Value} {l : List Ev} {k j : Nat} (h : Copiedev w g cs l k) (hj : j < l.length * 7) : ∃ u, w.cell? ⟨g, j, none⟩ = some u :=
  ⟨cs[j]'(Nat.lt_of_lt_of_le hj h.size), has_cell h.heap j (Array.getElem?_eq_getElem _)⟩
theorem Copiedev.step {w : World} {g : Nat} {cs : Array Value} {l : List Ev} {k : Nat} (h : Copiedev w g cs l k) {x : Ev} (hx : l[k]? = some x) :
    Copiedev (((((((w.setCell ⟨g, k * 7, none⟩ (.int .i64 x.nod)).setCell ⟨g, k * 7 + 1, none⟩ (.int .i64 x.seq)).setCell ⟨g, k * 7 + 2, none⟩ (.int .i64 x.stm)).setCell ⟨g, k * 7 + 3, none⟩ (.int .i64 x.knd)).setCell ⟨g, k * 7 + 4, none⟩ (.int .i64 x.par)).setCell ⟨g, k * 7 + 5, none⟩ (.int .i64 x.aa)).setCell ⟨g, k * 7 + 6, none⟩ (.int .i64 x.bb)) g (((((((cs.setIfInBounds (k * 7) (.int .i64 x.nod)).setIfInBounds (k * 7 + 1) (.int .i64 x.seq)).setIfInBounds (k * 7 + 2) (.int .i64 x.stm)).setIfInBounds (k * 7 + 3) (.int .i64 x.knd)).setIfInBounds (k * 7 + 4) (.int .i64 x.par)).setIfInBounds (k * 7 + 5) (.int .i64 x.aa)).setIfInBounds (k * 7 + 6) (.int .i64 x.bb)) l (k + 1) := by
  have hlt : k < l.length := (List.getElem?_eq_some_iff.1 hx).1
  have hsz := h.size
  refine ⟨(has_set (has_set (has_set (has_set (has_set (has_set (has_set h.heap _ _) _ _) _ _) _ _) _ _) _ _) _ _), by simpa using h.size, fun j y hj hy => ?_⟩
  by_cases hjk : j = k
  · subst hjk
    obtain rfl : x = y := by rw [hx] at hy; injection hy
    simp only [Array.getElem?_setIfInBounds, Array.size_setIfInBounds]
    refine ⟨?_, ?_, ?_, ?_, ?_, ?_, ?_⟩
    · rw [if_neg (by omega), if_neg (by omega), if_neg (by omega), if_neg (by omega), if_neg (by omega), if_neg (by omega), if_pos trivial, if_pos (by omega)]
    · rw [if_neg (by omega), if_neg (by omega), if_neg (by omega), if_neg (by omega), if_neg (by omega), if_pos trivial, if_pos (by omega)]
    · rw [if_neg (by omega), if_neg (by omega), if_neg (by omega), if_neg (by omega), if_pos trivial, if_pos (by omega)]
    · rw [if_neg (by omega), if_neg (by omega), if_neg (by omega), if_pos trivial, if_pos (by omega)]
    · rw [if_neg (by omega), if_neg (by omega), if_pos trivial, if_pos (by omega)]
    · rw [if_neg (by omega), if_pos trivial, if_pos (by omega)]
    · rw [if_pos trivial, if_pos (by omega)]
  · have := h.got j y (by omega) hy
    simp only [Array.getElem?_setIfInBounds]
    refine ⟨?_, ?_, ?_, ?_, ?_, ?_, ?_⟩
    all_goals rw [if_neg (by omega), if_neg (by omega), if_neg (by omega), if_neg (by omega), if_neg (by omega), if_neg (by omega), if_neg (by omega)]
    · exact this.1
    · exact this.2.1
    · exact this.2.2.1
    · exact this.2.2.2.1
    · exact this.2.2.2.2.1
    · exact this.2.2.2.2.2.1
    · exact this.2.2.2.2.2.2
theorem Copiedev.put {w : World} {g : Nat} {cs : Array Value} {l : List Ev} {k : Nat} (h : Copiedev w g cs l l.length) (hk : k < l.length) (x : Ev) :
    Copiedev (((((((w.setCell ⟨g, k * 7, none⟩ (.int .i64 x.nod)).setCell ⟨g, k * 7 + 1, none⟩ (.int .i64 x.seq)).setCell ⟨g, k * 7 + 2, none⟩ (.int .i64 x.stm)).setCell ⟨g, k * 7 + 3, none⟩ (.int .i64 x.knd)).setCell ⟨g, k * 7 + 4, none⟩ (.int .i64 x.par)).setCell ⟨g, k * 7 + 5, none⟩ (.int .i64 x.aa)).setCell ⟨g, k * 7 + 6, none⟩ (.int .i64 x.bb)) g (((((((cs.setIfInBounds (k * 7) (.int .i64 x.nod)).setIfInBounds (k * 7 + 1) (.int .i64 x.seq)).setIfInBounds (k * 7 + 2) (.int .i64 x.stm)).setIfInBounds (k * 7 + 3) (.int .i64 x.knd)).setIfInBounds (k * 7 + 4) (.int .i64 x.par)).setIfInBounds (k * 7 + 5) (.int .i64 x.aa)).setIfInBounds (k * 7 + 6) (.int .i64 x.bb)) (l.set k x) (l.set k x).length := by
  have hsz := h.size
  refine ⟨(has_set (has_set (has_set (has_set (has_set (has_set (has_set h.heap _ _) _ _) _ _) _ _) _ _) _ _) _ _), by simpa using h.size, fun j y hj hy => ?_⟩
  rw [List.length_set] at hj
  by_cases hjk : j = k
  · subst hjk
    rw [List.getElem?_set_self hk] at hy
    obtain rfl : x = y := by injection hy
    simp only [Array.getElem?_setIfInBounds, Array.size_setIfInBounds]
    refine ⟨?_, ?_, ?_, ?_, ?_, ?_, ?_⟩
    · rw [if_neg (by omega), if_neg (by omega), if_neg (by omega), if_neg (by omega), if_neg (by omega), if_neg (by omega), if_pos trivial, if_pos (by omega)]
    · rw [if_neg (by omega), if_neg (by omega), if_neg (by omega), if_neg (by omega), if_neg (by omega), if_pos trivial, if_pos (by omega)]
    · rw [if_neg (by omega), if_neg (by omega), if_neg (by omega), if_neg (by omega), if_pos trivial, if_pos (by omega)]
    · rw [if_neg (by omega), if_neg (by omega), if_neg (by omega), if_pos trivial, if_pos (by omega)]
    · rw [if_neg (by omega), if_neg (by omega), if_pos trivial, if_pos (by omega)]
    · rw [if_neg (by omega), if_pos trivial, if_pos (by omega)]
    · rw [if_pos trivial, if_pos (by omega)]
  · rw [List.getElem?_set_ne (fun e => hjk e.symm)] at hy
    have := h.got j y hj hy
    simp only [Array.getElem?_setIfInBounds]
    refine ⟨?_, ?_, ?_, ?_, ?_, ?_, ?_⟩
    all_goals rw [if_neg (by omega), if_neg (by omega), if_neg (by omega), if_neg (by omega), if_neg (by omega), if_neg (by omega), if_neg (by omega)]
    · exact this.1
    · exact this.2.1
    · exact this.2.2.1
    · exact this.2.2.2.1
    · exact this.2.2.2.2.1
    · exact this.2.2.2.2.2.1
    · exact this.2.2.2.2.2.2
theorem Copiedev.row {w : World} {g base : Nat} {cs : Array Value} {l : List Ev} (h : Copiedev w g cs l l.length) (hb : base ≤ g) : OR w base 40 (some ⟨g, 0, none⟩) (evV l) :=
  .inr ⟨g, cs, rfl, hb, h.heap, evV_of h.got⟩

theorem makeev_run (m : Nat) (hm : m ≤ 1048576) : ∀ W : World, (Instr.makeSlice 24 (.int .i64 (m : Int)) (.int .i64 (m : Int))).run Tryd.prog W = .ok (.slice (some ⟨W.heap.size, 0, none⟩) m m) (W.alloc (.cells (madeCells #[.int .i64 0, .int .i64 0, .int .i64 0, .int .i64 0, .int .i64 0, .int .i64 0, .int .i64 0] (m * 7)) 40)) := by
  intro W
  obtain ⟨i, hi, hz0, hz1, hz2⟩ := info_parts evInfo
  have := run_make (P := Tryd.prog) W 24 40 i _ Tryd.underlying24 hi hz0 .i64 .i64 (m : Int) (m : Int) (by omega) (by omega) (by rw [hz2]; omega) (by omega)
  simpa [hz1, Value.cells] using this

end Go.Proofs.YtdcejkompdbliaaDoor
