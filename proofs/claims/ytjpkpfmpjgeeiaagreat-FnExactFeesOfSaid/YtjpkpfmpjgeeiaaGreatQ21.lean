
/- Rows of Terms: what a slice of them reads as, and the laws' own helpers over them (gen_row.py). -/
import Derived.Test.YtjpkpfmpjgeeiaaGreatQ15
import Derived.Test.YtjpkpfmpjgeeiaaGreatQ02
import Derived.Test.YtjpkpfmpjgeeiaaGreatQ20
import Derived.StillTailTactics
namespace Go.Proofs.YtjpkpfmpjgeeiaaGreat
open Go.RowKit
set_option linter.unusedVariables false
set_option maxRecDepth 100000


/-- a slice of them reads as the list, below block B -/
def tmL (w : World) (B : Nat) (A : Option Addr) (l : List Tm) : Prop :=
  l = [] ∨ ∃ b off, A = some ⟨b, off, none⟩ ∧ b < B ∧ ∀ k x, l[k]? = some x → w.cell? ⟨b, off + k * 8, none⟩ = some (.int .i64 x.keep) ∧ w.cell? ⟨b, off + k * 8 + 1, none⟩ = some (.int .i64 x.free) ∧ w.cell? ⟨b, off + k * 8 + 2, none⟩ = some (.int .i64 x.step) ∧ w.cell? ⟨b, off + k * 8 + 3, none⟩ = some (.int .i64 x.rate) ∧ w.cell? ⟨b, off + k * 8 + 4, none⟩ = some (.int .i64 x.cap) ∧ w.cell? ⟨b, off + k * 8 + 5, none⟩ = some (.int .i64 x.longer) ∧ w.cell? ⟨b, off + k * 8 + 6, none⟩ = some (.int .i64 x.price) ∧ w.cell? ⟨b, off + k * 8 + 7, none⟩ = some (.int .i64 x.most)
theorem tmL.below {w w' : World} {B : Nat} {A : Option Addr} {l : List Tm} (h : tmL w B A l) (hb : Below B w w') : tmL w' B A l := by
  rcases h with h | ⟨b, off, rfl, hlt, hc⟩
  · exact .inl h
  · refine .inr ⟨b, off, rfl, hlt, fun k x hx => ?_⟩
    have := hc k x hx
    exact ⟨(hb.cell (p := ⟨b, off + k * 8, none⟩) hlt).trans this.1, (hb.cell (p := ⟨b, off + k * 8 + 1, none⟩) hlt).trans this.2.1, (hb.cell (p := ⟨b, off + k * 8 + 2, none⟩) hlt).trans this.2.2.1, (hb.cell (p := ⟨b, off + k * 8 + 3, none⟩) hlt).trans this.2.2.2.1, (hb.cell (p := ⟨b, off + k * 8 + 4, none⟩) hlt).trans this.2.2.2.2.1, (hb.cell (p := ⟨b, off + k * 8 + 5, none⟩) hlt).trans this.2.2.2.2.2.1, (hb.cell (p := ⟨b, off + k * 8 + 6, none⟩) hlt).trans this.2.2.2.2.2.2.1, (hb.cell (p := ⟨b, off + k * 8 + 7, none⟩) hlt).trans this.2.2.2.2.2.2.2⟩
theorem tmL.at_ {w : World} {B : Nat} {A : Option Addr} {l : List Tm} (h : tmL w B A l) {k : Nat} (hk : k < l.length) :
    ∃ b off x, A = some ⟨b, off, none⟩ ∧ b < B ∧ l[k]? = some x ∧ w.cell? ⟨b, off + k * 8, none⟩ = some (.int .i64 x.keep) ∧ w.cell? ⟨b, off + k * 8 + 1, none⟩ = some (.int .i64 x.free) ∧ w.cell? ⟨b, off + k * 8 + 2, none⟩ = some (.int .i64 x.step) ∧ w.cell? ⟨b, off + k * 8 + 3, none⟩ = some (.int .i64 x.rate) ∧ w.cell? ⟨b, off + k * 8 + 4, none⟩ = some (.int .i64 x.cap) ∧ w.cell? ⟨b, off + k * 8 + 5, none⟩ = some (.int .i64 x.longer) ∧ w.cell? ⟨b, off + k * 8 + 6, none⟩ = some (.int .i64 x.price) ∧ w.cell? ⟨b, off + k * 8 + 7, none⟩ = some (.int .i64 x.most) := by
  rcases h with h | ⟨b, off, rfl, hlt, hc⟩
  · subst h; simp at hk
  · exact ⟨b, off, _, rfl, hlt, List.getElem?_eq_getElem hk, hc k _ (List.getElem?_eq_getElem hk)⟩
theorem tmL.later {w w' : World} {B : Nat} {A : Option Addr} {l : List Tm} (h : tmL w B A l) (hB : B ≤ w.heap.size) (hb : Below w.heap.size w w') : tmL w' B A l := h.below (hb.mono hB)
theorem tmL.more {w : World} {B B' : Nat} {A : Option Addr} {l : List Tm} (h : tmL w B A l) (hB : B ≤ B') : tmL w B' A l := by
  rcases h with h | ⟨b, off, rfl, hlt, hc⟩
  · exact .inl h
  · exact .inr ⟨b, off, rfl, by omega, hc⟩
def tmC (x : Tm) : List Value := [.int .i64 x.keep, .int .i64 x.free, .int .i64 x.step, .int .i64 x.rate, .int .i64 x.cap, .int .i64 x.longer, .int .i64 x.price, .int .i64 x.most]
def tmV (l : List Tm) : List Value := l.flatMap tmC
theorem tmV_len (l : List Tm) : (tmV l).length = 8 * l.length := by
  induction l with
  | nil => rfl
  | cons a r ih => simp [tmV, tmC] at ih ⊢; omega
theorem tmV_at : ∀ {l : List Tm} {k : Nat} {x : Tm}, l[k]? = some x → (tmV l)[k * 8]? = some (.int .i64 x.keep) ∧ (tmV l)[k * 8 + 1]? = some (.int .i64 x.free) ∧ (tmV l)[k * 8 + 2]? = some (.int .i64 x.step) ∧ (tmV l)[k * 8 + 3]? = some (.int .i64 x.rate) ∧ (tmV l)[k * 8 + 4]? = some (.int .i64 x.cap) ∧ (tmV l)[k * 8 + 5]? = some (.int .i64 x.longer) ∧ (tmV l)[k * 8 + 6]? = some (.int .i64 x.price) ∧ (tmV l)[k * 8 + 7]? = some (.int .i64 x.most)
  | [], k, u, h => by simp at h
  | a :: r, 0, u, h => by
    simp at h; subst h
    exact ⟨rfl, rfl, rfl, rfl, rfl, rfl, rfl, rfl⟩
  | a :: r, k + 1, u, h => by
    have ih := tmV_at (l := r) (k := k) (x := u) (by simpa using h)
    have e : tmV (a :: r) = .int .i64 a.keep :: .int .i64 a.free :: .int .i64 a.step :: .int .i64 a.rate :: .int .i64 a.cap :: .int .i64 a.longer :: .int .i64 a.price :: .int .i64 a.most :: tmV r := rfl
    rw [e, show (k + 1) * 8 = k * 8 + 1 + 1 + 1 + 1 + 1 + 1 + 1 + 1 by omega]
    exact ⟨by simpa using ih.1, by simpa using ih.2.1, by simpa using ih.2.2.1, by simpa using ih.2.2.2.1, by simpa using ih.2.2.2.2.1, by simpa using ih.2.2.2.2.2.1, by simpa using ih.2.2.2.2.2.2.1, by simpa using ih.2.2.2.2.2.2.2⟩
theorem tmV_nil {l : List Tm} (h : tmV l = []) : l = [] := by
  have := congrArg List.length h
  rw [tmV_len] at this
  exact List.eq_nil_of_length_eq_zero (by simp only [List.length_nil] at this; omega)
theorem OR.tm {w : World} {base : Nat} {e : TypeId} {A : Option Addr} {l : List Tm} (h : OR w base e A (tmV l)) : tmL w w.heap.size A l := by
  rcases h with h | ⟨g, cur, rfl, hb, hh, hc⟩
  · exact .inl (tmV_nil h)
  · refine .inr ⟨g, 0, rfl, has_lt hh, fun k x hx => ?_⟩
    have := tmV_at hx
    rw [Nat.zero_add]
    exact ⟨has_cell hh _ (hc _ _ this.1), has_cell hh _ (hc _ _ this.2.1), has_cell hh _ (hc _ _ this.2.2.1), has_cell hh _ (hc _ _ this.2.2.2.1), has_cell hh _ (hc _ _ this.2.2.2.2.1), has_cell hh _ (hc _ _ this.2.2.2.2.2.1), has_cell hh _ (hc _ _ this.2.2.2.2.2.2.1), has_cell hh _ (hc _ _ this.2.2.2.2.2.2.2)⟩
theorem OI.tm {w : World} {lo hi : Nat} {e : TypeId} {A : Option Addr} {l : List Tm} (h : OI w lo hi e A (tmV l)) : tmL w w.heap.size A l := h.or_.tm
theorem tmV_of {l : List Tm} {cs : Array Value} (h : ∀ j x, j < l.length → l[j]? = some x → cs[j * 8]? = some (.int .i64 x.keep) ∧ cs[j * 8 + 1]? = some (.int .i64 x.free) ∧ cs[j * 8 + 2]? = some (.int .i64 x.step) ∧ cs[j * 8 + 3]? = some (.int .i64 x.rate) ∧ cs[j * 8 + 4]? = some (.int .i64 x.cap) ∧ cs[j * 8 + 5]? = some (.int .i64 x.longer) ∧ cs[j * 8 + 6]? = some (.int .i64 x.price) ∧ cs[j * 8 + 7]? = some (.int .i64 x.most)) : ∀ (j : Nat) (u : Value), (tmV l)[j]? = some u → cs[j]? = some u := by
  intro j u hu
  have hj : j < 8 * l.length := by have := (List.getElem?_eq_some_iff.1 hu).1; rwa [tmV_len] at this
  obtain ⟨q, r, rfl, hr⟩ : ∃ q r, j = q * 8 + r ∧ r < 8 := ⟨j / 8, j % 8, by omega, by omega⟩
  have hq : q < l.length := by omega
  have hx := List.getElem?_eq_getElem hq
  have h1 := tmV_at hx
  have h2 := h q _ hq hx
  rcases r with _ | _ | _ | _ | _ | _ | _ | _ | r
  · rw [Nat.add_zero] at hu ⊢; rw [h1.1] at hu; rw [h2.1]; exact hu
  · rw [h1.2.1] at hu; rw [h2.2.1]; exact hu
  · rw [h1.2.2.1] at hu; rw [h2.2.2.1]; exact hu
  · rw [h1.2.2.2.1] at hu; rw [h2.2.2.2.1]; exact hu
  · rw [h1.2.2.2.2.1] at hu; rw [h2.2.2.2.2.1]; exact hu
  · rw [h1.2.2.2.2.2.1] at hu; rw [h2.2.2.2.2.2.1]; exact hu
  · rw [h1.2.2.2.2.2.2.1] at hu; rw [h2.2.2.2.2.2.2.1]; exact hu
  · rw [h1.2.2.2.2.2.2.2] at hu; rw [h2.2.2.2.2.2.2.2]; exact hu
  · omega
def seqtm (k : Int) (m : Nat) : List Tm := (List.range m).map fun (j : Nat) => ⟨k + 8 * (j : Int), k + 8 * (j : Int) + 1, k + 8 * (j : Int) + 1 + 1, k + 8 * (j : Int) + 1 + 1 + 1, k + 8 * (j : Int) + 1 + 1 + 1 + 1, k + 8 * (j : Int) + 1 + 1 + 1 + 1 + 1, k + 8 * (j : Int) + 1 + 1 + 1 + 1 + 1 + 1, k + 8 * (j : Int) + 1 + 1 + 1 + 1 + 1 + 1 + 1⟩
theorem toTerms_any (x0 : Int) (x1 : Int) (x2 : Int) (x3 : Int) (x4 : Int) (x5 : Int) (x6 : Int) (x7 : Int) (w : World) :
    Calls Tryz.prog 18 #[.agg #[.int .i64 x0, .int .i64 x1, .int .i64 x2, .int .i64 x3, .int .i64 x4, .int .i64 x5, .int .i64 x6, .int .i64 x7]] w fun e w' => e = .returned (.agg #[.int .i64 x0, .int .i64 x1, .int .i64 x2, .int .i64 x3, .int .i64 x4, .int .i64 x5, .int .i64 x6, .int .i64 x7]) ∧ Below w.heap.size w w' := by
  go_enter Tryz.func18, Tryz.ntmps18
  go_wp2
  exact bodyPost_ret (v := .agg #[.int .i64 x0, .int .i64 x1, .int .i64 x2, .int .i64 x3, .int .i64 x4, .int .i64 x5, .int .i64 x6, .int .i64 x7]) (by simp [results, Tryz.results18, go_sem]) rfl ⟨rfl, (((Below.refl _ _).alloc (Nat.le_refl _) _).alloc (by simp) _).alloc (by simp; omega) _⟩
theorem eqTerms_any (x0 : Int) (x1 : Int) (x2 : Int) (x3 : Int) (x4 : Int) (x5 : Int) (x6 : Int) (x7 : Int) (w : World) :
    Calls Tryz.prog 24 #[.agg #[.int .i64 x0, .int .i64 x1, .int .i64 x2, .int .i64 x3, .int .i64 x4, .int .i64 x5, .int .i64 x6, .int .i64 x7], .agg #[.int .i64 x0, .int .i64 x1, .int .i64 x2, .int .i64 x3, .int .i64 x4, .int .i64 x5, .int .i64 x6, .int .i64 x7]] w fun e w' => e = .returned (.bool true) ∧ Below w.heap.size w w' := by
  have hb : Below w.heap.size w ((w.alloc (.cells #[.int .i64 x0, .int .i64 x1, .int .i64 x2, .int .i64 x3, .int .i64 x4, .int .i64 x5, .int .i64 x6, .int .i64 x7] 32)).alloc (.cells #[.int .i64 x0, .int .i64 x1, .int .i64 x2, .int .i64 x3, .int .i64 x4, .int .i64 x5, .int .i64 x6, .int .i64 x7] 32)) := ((Below.refl _ _).alloc (Nat.le_refl _) _).alloc (by simp) _
  have e0 : (x0 != x0) = false := by simp
  have e1 : (x1 != x1) = false := by simp
  have e2 : (x2 != x2) = false := by simp
  have e3 : (x3 != x3) = false := by simp
  have e4 : (x4 != x4) = false := by simp
  have e5 : (x5 != x5) = false := by simp
  have e6 : (x6 != x6) = false := by simp
  have e7 : (x7 != x7) = false := by simp
  go_enter Tryz.func24, Tryz.ntmps24
  go_wp2
  go_ret
  exact ⟨rfl, hb⟩

/-- block g holds the first k of the list, and has room for all of them -/
structure Copiedtm (w : World) (g : Nat) (cs : Array Value) (l : List Tm) (k : Nat) : Prop where
  heap : Has w g 32 cs
  size : l.length * 8 ≤ cs.size
  got : ∀ j x, j < k → l[j]? = some x → cs[j * 8]? = some (.int .i64 x.keep) ∧ cs[j * 8 + 1]? = some (.int .i64 x.free) ∧ cs[j * 8 + 2]? = some (.int .i64 x.step) ∧ cs[j * 8 + 3]? = some (.int .i64 x.rate) ∧ cs[j * 8 + 4]? = some (.int .i64 x.cap) ∧ cs[j * 8 + 5]? = some (.int .i64 x.longer) ∧ cs[j * 8 + 6]? = some (.int .i64 x.price) ∧ cs[j * 8 + 7]? = some (.int .i64 x.most)
theorem Copiedtm.below {w w' : World} {g : Nat} {cs : Array Value} {l : List Tm} {k : Nat} (h : Copiedtm w g cs l k) (hb : Below w.heap.size w w') : Copiedtm w' g cs l k := ⟨has_call h.heap hb, h.size, h.got⟩
theorem Copiedtm.cellAt {w : World} {g : Nat} {cs : Array Value} {l : List Tm} {k j : Nat} (h : Copiedtm w g cs l k) (hj : j < l.length * 8) : ∃ u, w.cell? ⟨g, j, none⟩ = some u :=
  ⟨cs[j]'(Nat.lt_of_lt_of_le hj h.size), has_cell h.heap j (Array.getElem?_eq_getElem _)⟩
theorem Copiedtm.step {w : World} {g : Nat} {cs : Array Value} {l : List Tm} {k : Nat} (h : Copiedtm w g cs l k) {x : Tm} (hx : l[k]? = some x) :
    Copiedtm ((((((((w.setCell ⟨g, k * 8, none⟩ (.int .i64 x.keep)).setCell ⟨g, k * 8 + 1, none⟩ (.int .i64 x.free)).setCell ⟨g, k * 8 + 2, none⟩ (.int .i64 x.step)).setCell ⟨g, k * 8 + 3, none⟩ (.int .i64 x.rate)).setCell ⟨g, k * 8 + 4, none⟩ (.int .i64 x.cap)).setCell ⟨g, k * 8 + 5, none⟩ (.int .i64 x.longer)).setCell ⟨g, k * 8 + 6, none⟩ (.int .i64 x.price)).setCell ⟨g, k * 8 + 7, none⟩ (.int .i64 x.most)) g ((((((((cs.setIfInBounds (k * 8) (.int .i64 x.keep)).setIfInBounds (k * 8 + 1) (.int .i64 x.free)).setIfInBounds (k * 8 + 2) (.int .i64 x.step)).setIfInBounds (k * 8 + 3) (.int .i64 x.rate)).setIfInBounds (k * 8 + 4) (.int .i64 x.cap)).setIfInBounds (k * 8 + 5) (.int .i64 x.longer)).setIfInBounds (k * 8 + 6) (.int .i64 x.price)).setIfInBounds (k * 8 + 7) (.int .i64 x.most)) l (k + 1) := by
  have hlt : k < l.length := (List.getElem?_eq_some_iff.1 hx).1
  have hsz := h.size
  refine ⟨(has_set (has_set (has_set (has_set (has_set (has_set (has_set (has_set h.heap _ _) _ _) _ _) _ _) _ _) _ _) _ _) _ _), by simpa using h.size, fun j y hj hy => ?_⟩
  by_cases hjk : j = k
  · subst hjk
    obtain rfl : x = y := by rw [hx] at hy; injection hy
    simp only [Array.getElem?_setIfInBounds, Array.size_setIfInBounds]
    refine ⟨?_, ?_, ?_, ?_, ?_, ?_, ?_, ?_⟩
    · rw [if_neg (by omega), if_neg (by omega), if_neg (by omega), if_neg (by omega), if_neg (by omega), if_neg (by omega), if_neg (by omega), if_pos trivial, if_pos (by omega)]
    · rw [if_neg (by omega), if_neg (by omega), if_neg (by omega), if_neg (by omega), if_neg (by omega), if_neg (by omega), if_pos trivial, if_pos (by omega)]
    · rw [if_neg (by omega), if_neg (by omega), if_neg (by omega), if_neg (by omega), if_neg (by omega), if_pos trivial, if_pos (by omega)]
    · rw [if_neg (by omega), if_neg (by omega), if_neg (by omega), if_neg (by omega), if_pos trivial, if_pos (by omega)]
    · rw [if_neg (by omega), if_neg (by omega), if_neg (by omega), if_pos trivial, if_pos (by omega)]
    · rw [if_neg (by omega), if_neg (by omega), if_pos trivial, if_pos (by omega)]
    · rw [if_neg (by omega), if_pos trivial, if_pos (by omega)]
    · rw [if_pos trivial, if_pos (by omega)]
  · have := h.got j y (by omega) hy
    simp only [Array.getElem?_setIfInBounds]
    refine ⟨?_, ?_, ?_, ?_, ?_, ?_, ?_, ?_⟩
    all_goals rw [if_neg (by omega), if_neg (by omega), if_neg (by omega), if_neg (by omega), if_neg (by omega), if_neg (by omega), if_neg (by omega), if_neg (by omega)]
    · exact this.1
    · exact this.2.1
    · exact this.2.2.1
    · exact this.2.2.2.1
    · exact this.2.2.2.2.1
    · exact this.2.2.2.2.2.1
    · exact this.2.2.2.2.2.2.1
    · exact this.2.2.2.2.2.2.2
theorem Copiedtm.put {w : World} {g : Nat} {cs : Array Value} {l : List Tm} {k : Nat} (h : Copiedtm w g cs l l.length) (hk : k < l.length) (x : Tm) :
    Copiedtm ((((((((w.setCell ⟨g, k * 8, none⟩ (.int .i64 x.keep)).setCell ⟨g, k * 8 + 1, none⟩ (.int .i64 x.free)).setCell ⟨g, k * 8 + 2, none⟩ (.int .i64 x.step)).setCell ⟨g, k * 8 + 3, none⟩ (.int .i64 x.rate)).setCell ⟨g, k * 8 + 4, none⟩ (.int .i64 x.cap)).setCell ⟨g, k * 8 + 5, none⟩ (.int .i64 x.longer)).setCell ⟨g, k * 8 + 6, none⟩ (.int .i64 x.price)).setCell ⟨g, k * 8 + 7, none⟩ (.int .i64 x.most)) g ((((((((cs.setIfInBounds (k * 8) (.int .i64 x.keep)).setIfInBounds (k * 8 + 1) (.int .i64 x.free)).setIfInBounds (k * 8 + 2) (.int .i64 x.step)).setIfInBounds (k * 8 + 3) (.int .i64 x.rate)).setIfInBounds (k * 8 + 4) (.int .i64 x.cap)).setIfInBounds (k * 8 + 5) (.int .i64 x.longer)).setIfInBounds (k * 8 + 6) (.int .i64 x.price)).setIfInBounds (k * 8 + 7) (.int .i64 x.most)) (l.set k x) (l.set k x).length := by
  have hsz := h.size
  refine ⟨(has_set (has_set (has_set (has_set (has_set (has_set (has_set (has_set h.heap _ _) _ _) _ _) _ _) _ _) _ _) _ _) _ _), by simpa using h.size, fun j y hj hy => ?_⟩
  rw [List.length_set] at hj
  by_cases hjk : j = k
  · subst hjk
    rw [List.getElem?_set_self hk] at hy
    obtain rfl : x = y := by injection hy
    simp only [Array.getElem?_setIfInBounds, Array.size_setIfInBounds]
    refine ⟨?_, ?_, ?_, ?_, ?_, ?_, ?_, ?_⟩
    · rw [if_neg (by omega), if_neg (by omega), if_neg (by omega), if_neg (by omega), if_neg (by omega), if_neg (by omega), if_neg (by omega), if_pos trivial, if_pos (by omega)]
    · rw [if_neg (by omega), if_neg (by omega), if_neg (by omega), if_neg (by omega), if_neg (by omega), if_neg (by omega), if_pos trivial, if_pos (by omega)]
    · rw [if_neg (by omega), if_neg (by omega), if_neg (by omega), if_neg (by omega), if_neg (by omega), if_pos trivial, if_pos (by omega)]
    · rw [if_neg (by omega), if_neg (by omega), if_neg (by omega), if_neg (by omega), if_pos trivial, if_pos (by omega)]
    · rw [if_neg (by omega), if_neg (by omega), if_neg (by omega), if_pos trivial, if_pos (by omega)]
    · rw [if_neg (by omega), if_neg (by omega), if_pos trivial, if_pos (by omega)]
    · rw [if_neg (by omega), if_pos trivial, if_pos (by omega)]
    · rw [if_pos trivial, if_pos (by omega)]
  · rw [List.getElem?_set_ne (fun e => hjk e.symm)] at hy
    have := h.got j y hj hy
    simp only [Array.getElem?_setIfInBounds]
    refine ⟨?_, ?_, ?_, ?_, ?_, ?_, ?_, ?_⟩
    all_goals rw [if_neg (by omega), if_neg (by omega), if_neg (by omega), if_neg (by omega), if_neg (by omega), if_neg (by omega), if_neg (by omega), if_neg (by omega)]
    · exact this.1
    · exact this.2.1
    · exact this.2.2.1
    · exact this.2.2.2.1
    · exact this.2.2.2.2.1
    · exact this.2.2.2.2.2.1
    · exact this.2.2.2.2.2.2.1
    · exact this.2.2.2.2.2.2.2
theorem Copiedtm.row {w : World} {g base : Nat} {cs : Array Value} {l : List Tm} (h : Copiedtm w g cs l l.length) (hb : base ≤ g) : OR w base 32 (some ⟨g, 0, none⟩) (tmV l) :=
  .inr ⟨g, cs, rfl, hb, h.heap, tmV_of h.got⟩

end Go.Proofs.YtjpkpfmpjgeeiaaGreat
