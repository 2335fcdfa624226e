
/- Chapter 9: the laws' sizes, copies and comparisons of sites (gen_ntb.py). -/
import Derived.Test.YtjpkpfmpjgeeiaaGreatQ15
import Derived.Deep.RegionWith
namespace Go.Proofs.YtjpkpfmpjgeeiaaGreat
open Go.RowKit
set_option linter.unusedVariables false
set_option maxRecDepth 100000
/-- a slice of sites reads as the list, below block B -/
def SIL (w : World) (B : Nat) (A : Option Addr) (l : List Sit) : Prop :=
  l = [] ∨ ∃ b off, A = some ⟨b, off, none⟩ ∧ b < B ∧ ∀ k x, l[k]? = some x → w.cell? ⟨b, off + k * 11, none⟩ = some (.slice x.A1 x.o.length x.c1) ∧ w.cell? ⟨b, off + k * 11 + 1, none⟩ = some (.slice x.A2 x.q.length x.c2) ∧ w.cell? ⟨b, off + k * 11 + 2, none⟩ = some (.slice x.AB x.bk.length x.cB) ∧ w.cell? ⟨b, off + k * 11 + 3, none⟩ = some (.int .i64 x.dk) ∧ w.cell? ⟨b, off + k * 11 + 4, none⟩ = some (.int .i64 x.ds) ∧ w.cell? ⟨b, off + k * 11 + 5, none⟩ = some (.bool x.dl) ∧ w.cell? ⟨b, off + k * 11 + 6, none⟩ = some (.bool x.dp) ∧ w.cell? ⟨b, off + k * 11 + 7, none⟩ = some (.bool x.df) ∧ w.cell? ⟨b, off + k * 11 + 8, none⟩ = some (.int .i64 x.par) ∧ w.cell? ⟨b, off + k * 11 + 9, none⟩ = some (.int .i64 x.who) ∧ w.cell? ⟨b, off + k * 11 + 10, none⟩ = some (.slice x.AJ x.jr.length x.cJ)
theorem SIL.below {w w' : World} {B : Nat} {A : Option Addr} {l : List Sit} (h : SIL w B A l) (hb : Below B w w') : SIL w' B A l := by
  rcases h with h | ⟨b, off, rfl, hlt, hc⟩
  · exact .inl h
  · refine .inr ⟨b, off, rfl, hlt, fun k x hx => ?_⟩
    have := hc k x hx
    exact ⟨(hb.cell (p := ⟨b, off + k * 11, none⟩) hlt).trans this.1, (hb.cell (p := ⟨b, off + k * 11 + 1, none⟩) hlt).trans this.2.1, (hb.cell (p := ⟨b, off + k * 11 + 2, none⟩) hlt).trans this.2.2.1, (hb.cell (p := ⟨b, off + k * 11 + 3, none⟩) hlt).trans this.2.2.2.1, (hb.cell (p := ⟨b, off + k * 11 + 4, none⟩) hlt).trans this.2.2.2.2.1, (hb.cell (p := ⟨b, off + k * 11 + 5, none⟩) hlt).trans this.2.2.2.2.2.1, (hb.cell (p := ⟨b, off + k * 11 + 6, none⟩) hlt).trans this.2.2.2.2.2.2.1, (hb.cell (p := ⟨b, off + k * 11 + 7, none⟩) hlt).trans this.2.2.2.2.2.2.2.1, (hb.cell (p := ⟨b, off + k * 11 + 8, none⟩) hlt).trans this.2.2.2.2.2.2.2.2.1, (hb.cell (p := ⟨b, off + k * 11 + 9, none⟩) hlt).trans this.2.2.2.2.2.2.2.2.2.1, (hb.cell (p := ⟨b, off + k * 11 + 10, none⟩) hlt).trans this.2.2.2.2.2.2.2.2.2.2⟩
theorem SIL.later {w w' : World} {B : Nat} {A : Option Addr} {l : List Sit} (h : SIL w B A l) (hB : B ≤ w.heap.size) (hb : Below w.heap.size w w') : SIL w' B A l := h.below (hb.mono hB)
theorem SIL.more {w : World} {B B' : Nat} {A : Option Addr} {l : List Sit} (h : SIL w B A l) (hB : B ≤ B') : SIL w B' A l := by
  rcases h with h | ⟨b, off, rfl, hlt, hc⟩
  · exact .inl h
  · exact .inr ⟨b, off, rfl, by omega, hc⟩
theorem SIL.at_ {w : World} {B : Nat} {A : Option Addr} {l : List Sit} (h : SIL w B A l) {k : Nat} (hk : k < l.length) :
    ∃ b off x, A = some ⟨b, off, none⟩ ∧ b < B ∧ l[k]? = some x ∧ w.cell? ⟨b, off + k * 11, none⟩ = some (.slice x.A1 x.o.length x.c1) ∧ w.cell? ⟨b, off + k * 11 + 1, none⟩ = some (.slice x.A2 x.q.length x.c2) ∧ w.cell? ⟨b, off + k * 11 + 2, none⟩ = some (.slice x.AB x.bk.length x.cB) ∧ w.cell? ⟨b, off + k * 11 + 3, none⟩ = some (.int .i64 x.dk) ∧ w.cell? ⟨b, off + k * 11 + 4, none⟩ = some (.int .i64 x.ds) ∧ w.cell? ⟨b, off + k * 11 + 5, none⟩ = some (.bool x.dl) ∧ w.cell? ⟨b, off + k * 11 + 6, none⟩ = some (.bool x.dp) ∧ w.cell? ⟨b, off + k * 11 + 7, none⟩ = some (.bool x.df) ∧ w.cell? ⟨b, off + k * 11 + 8, none⟩ = some (.int .i64 x.par) ∧ w.cell? ⟨b, off + k * 11 + 9, none⟩ = some (.int .i64 x.who) ∧ w.cell? ⟨b, off + k * 11 + 10, none⟩ = some (.slice x.AJ x.jr.length x.cJ) := by
  rcases h with h | ⟨b, off, rfl, hlt, hc⟩
  · subst h; simp at hk
  · exact ⟨b, off, _, rfl, hlt, List.getElem?_eq_getElem hk, hc k _ (List.getElem?_eq_getElem hk)⟩
def sitsV (l : List Sit) : List Value := l.flatMap sitC
theorem sitsV_len (l : List Sit) : (sitsV l).length = 11 * l.length := by
  induction l with
  | nil => rfl
  | cons a r ih => simp [sitsV, sitC] at ih ⊢; omega
theorem sitsV_at : ∀ {l : List Sit} {k : Nat} {x : Sit}, l[k]? = some x → (sitsV l)[k * 11]? = some (.slice x.A1 x.o.length x.c1) ∧ (sitsV l)[k * 11 + 1]? = some (.slice x.A2 x.q.length x.c2) ∧ (sitsV l)[k * 11 + 2]? = some (.slice x.AB x.bk.length x.cB) ∧ (sitsV l)[k * 11 + 3]? = some (.int .i64 x.dk) ∧ (sitsV l)[k * 11 + 4]? = some (.int .i64 x.ds) ∧ (sitsV l)[k * 11 + 5]? = some (.bool x.dl) ∧ (sitsV l)[k * 11 + 6]? = some (.bool x.dp) ∧ (sitsV l)[k * 11 + 7]? = some (.bool x.df) ∧ (sitsV l)[k * 11 + 8]? = some (.int .i64 x.par) ∧ (sitsV l)[k * 11 + 9]? = some (.int .i64 x.who) ∧ (sitsV l)[k * 11 + 10]? = some (.slice x.AJ x.jr.length x.cJ)
  | [], k, u, h => by simp at h
  | a :: r, 0, u, h => by
    simp at h; subst h
    exact ⟨rfl, rfl, rfl, rfl, rfl, rfl, rfl, rfl, rfl, rfl, rfl⟩
  | a :: r, k + 1, u, h => by
    have ih := sitsV_at (l := r) (k := k) (x := u) (by simpa using h)
    have e : sitsV (a :: r) = .slice a.A1 a.o.length a.c1 :: .slice a.A2 a.q.length a.c2 :: .slice a.AB a.bk.length a.cB :: .int .i64 a.dk :: .int .i64 a.ds :: .bool a.dl :: .bool a.dp :: .bool a.df :: .int .i64 a.par :: .int .i64 a.who :: .slice a.AJ a.jr.length a.cJ :: sitsV r := rfl
    rw [e, show (k + 1) * 11 = k * 11 + 1 + 1 + 1 + 1 + 1 + 1 + 1 + 1 + 1 + 1 + 1 by omega]
    exact ⟨by simpa using ih.1, by simpa using ih.2.1, by simpa using ih.2.2.1, by simpa using ih.2.2.2.1, by simpa using ih.2.2.2.2.1, by simpa using ih.2.2.2.2.2.1, by simpa using ih.2.2.2.2.2.2.1, by simpa using ih.2.2.2.2.2.2.2.1, by simpa using ih.2.2.2.2.2.2.2.2.1, by simpa using ih.2.2.2.2.2.2.2.2.2.1, by simpa using ih.2.2.2.2.2.2.2.2.2.2⟩
theorem sitsV_of {l : List Sit} {cs : Array Value} (h : ∀ j x, j < l.length → l[j]? = some x → cs[j * 11]? = some (.slice x.A1 x.o.length x.c1) ∧ cs[j * 11 + 1]? = some (.slice x.A2 x.q.length x.c2) ∧ cs[j * 11 + 2]? = some (.slice x.AB x.bk.length x.cB) ∧ cs[j * 11 + 3]? = some (.int .i64 x.dk) ∧ cs[j * 11 + 4]? = some (.int .i64 x.ds) ∧ cs[j * 11 + 5]? = some (.bool x.dl) ∧ cs[j * 11 + 6]? = some (.bool x.dp) ∧ cs[j * 11 + 7]? = some (.bool x.df) ∧ cs[j * 11 + 8]? = some (.int .i64 x.par) ∧ cs[j * 11 + 9]? = some (.int .i64 x.who) ∧ cs[j * 11 + 10]? = some (.slice x.AJ x.jr.length x.cJ)) : ∀ (j : Nat) (u : Value), (sitsV l)[j]? = some u → cs[j]? = some u := by
  intro j u hu
  have hj : j < 11 * l.length := by have := (List.getElem?_eq_some_iff.1 hu).1; rwa [sitsV_len] at this
  obtain ⟨q, r, rfl, hr⟩ : ∃ q r, j = q * 11 + r ∧ r < 11 := ⟨j / 11, j % 11, by omega, by omega⟩
  have hq : q < l.length := by omega
  have hx := List.getElem?_eq_getElem hq
  have h1 := sitsV_at hx
  have h2 := h q _ hq hx
  rcases r with _ | _ | _ | _ | _ | _ | _ | _ | _ | _ | _ | r
  · rw [Nat.add_zero] at hu ⊢; rw [h1.1] at hu; rw [h2.1]; exact hu
  · rw [h1.2.1] at hu; rw [h2.2.1]; exact hu
  · rw [h1.2.2.1] at hu; rw [h2.2.2.1]; exact hu
  · rw [h1.2.2.2.1] at hu; rw [h2.2.2.2.1]; exact hu
  · rw [h1.2.2.2.2.1] at hu; rw [h2.2.2.2.2.1]; exact hu
  · rw [h1.2.2.2.2.2.1] at hu; rw [h2.2.2.2.2.2.1]; exact hu
  · rw [h1.2.2.2.2.2.2.1] at hu; rw [h2.2.2.2.2.2.2.1]; exact hu
  · rw [h1.2.2.2.2.2.2.2.1] at hu; rw [h2.2.2.2.2.2.2.2.1]; exact hu
  · rw [h1.2.2.2.2.2.2.2.2.1] at hu; rw [h2.2.2.2.2.2.2.2.2.1]; exact hu
  · rw [h1.2.2.2.2.2.2.2.2.2.1] at hu; rw [h2.2.2.2.2.2.2.2.2.2.1]; exact hu
  · rw [h1.2.2.2.2.2.2.2.2.2.2] at hu; rw [h2.2.2.2.2.2.2.2.2.2.2]; exact hu
  · omega
theorem sitInfo : (Tryz.prog.info? 88).map (fun i => (i.zero, i.size, i.bytes)) = some (some (.agg #[.slice none 0 0, .slice none 0 0, .slice none 0 0, .int .i64 0, .int .i64 0, .bool false, .bool false, .bool false, .int .i64 0, .int .i64 0, .slice none 0 0]), 11, 136) := by kernel_rfl
/-- block g holds the first ones of n sites -/
structure CopiedS (w : World) (g : Nat) (cs : Array Value) (l' : List Sit) (n : Nat) : Prop where
  heap : Has w g 88 cs
  size : n * 11 ≤ cs.size
  got : ∀ j x, l'[j]? = some x → cs[j * 11]? = some (.slice x.A1 x.o.length x.c1) ∧ cs[j * 11 + 1]? = some (.slice x.A2 x.q.length x.c2) ∧ cs[j * 11 + 2]? = some (.slice x.AB x.bk.length x.cB) ∧ cs[j * 11 + 3]? = some (.int .i64 x.dk) ∧ cs[j * 11 + 4]? = some (.int .i64 x.ds) ∧ cs[j * 11 + 5]? = some (.bool x.dl) ∧ cs[j * 11 + 6]? = some (.bool x.dp) ∧ cs[j * 11 + 7]? = some (.bool x.df) ∧ cs[j * 11 + 8]? = some (.int .i64 x.par) ∧ cs[j * 11 + 9]? = some (.int .i64 x.who) ∧ cs[j * 11 + 10]? = some (.slice x.AJ x.jr.length x.cJ)
theorem CopiedS.cellAt {w : World} {g : Nat} {cs : Array Value} {l' : List Sit} {n j : Nat} (h : CopiedS w g cs l' n) (hj : j < n * 11) : ∃ u, w.cell? ⟨g, j, none⟩ = some u :=
  ⟨cs[j]'(Nat.lt_of_lt_of_le hj h.size), has_cell h.heap j (Array.getElem?_eq_getElem _)⟩
theorem CopiedS.sil {w : World} {g : Nat} {cs : Array Value} {l' : List Sit} {n : Nat} (h : CopiedS w g cs l' n) : SIL w w.heap.size (some ⟨g, 0, none⟩) l' :=
  .inr ⟨g, 0, rfl, has_lt h.heap, fun k x hx => by
    have := h.got k x hx
    rw [Nat.zero_add]
    exact ⟨has_cell h.heap _ this.1, has_cell h.heap _ this.2.1, has_cell h.heap _ this.2.2.1, has_cell h.heap _ this.2.2.2.1, has_cell h.heap _ this.2.2.2.2.1, has_cell h.heap _ this.2.2.2.2.2.1, has_cell h.heap _ this.2.2.2.2.2.2.1, has_cell h.heap _ this.2.2.2.2.2.2.2.1, has_cell h.heap _ this.2.2.2.2.2.2.2.2.1, has_cell h.heap _ this.2.2.2.2.2.2.2.2.2.1, has_cell h.heap _ this.2.2.2.2.2.2.2.2.2.2⟩⟩
theorem CopiedS.oi {w : World} {g lo hi : Nat} {cs : Array Value} {l' : List Sit} {n : Nat} (h : CopiedS w g cs l' n) (h1 : lo ≤ g) (h2 : g < hi) : OI w lo hi 88 (some ⟨g, 0, none⟩) (sitsV l') :=
  .inr ⟨g, cs, rfl, h1, h2, h.heap, sitsV_of fun j x _ hx => h.got j x hx⟩
set_option maxHeartbeats 2000000 in
theorem CopiedS.step {w : World} {g : Nat} {cs : Array Value} {l' : List Sit} {n : Nat} (h : CopiedS w g cs l' n) (hk : l'.length < n) (x : Sit) :
    CopiedS (((((((((((w.setCell ⟨g, l'.length * 11, none⟩ (.slice x.A1 x.o.length x.c1)).setCell ⟨g, l'.length * 11 + 1, none⟩ (.slice x.A2 x.q.length x.c2)).setCell ⟨g, l'.length * 11 + 2, none⟩ (.slice x.AB x.bk.length x.cB)).setCell ⟨g, l'.length * 11 + 3, none⟩ (.int .i64 x.dk)).setCell ⟨g, l'.length * 11 + 4, none⟩ (.int .i64 x.ds)).setCell ⟨g, l'.length * 11 + 5, none⟩ (.bool x.dl)).setCell ⟨g, l'.length * 11 + 6, none⟩ (.bool x.dp)).setCell ⟨g, l'.length * 11 + 7, none⟩ (.bool x.df)).setCell ⟨g, l'.length * 11 + 8, none⟩ (.int .i64 x.par)).setCell ⟨g, l'.length * 11 + 9, none⟩ (.int .i64 x.who)).setCell ⟨g, l'.length * 11 + 10, none⟩ (.slice x.AJ x.jr.length x.cJ)) g (((((((((((cs.setIfInBounds (l'.length * 11) (.slice x.A1 x.o.length x.c1)).setIfInBounds (l'.length * 11 + 1) (.slice x.A2 x.q.length x.c2)).setIfInBounds (l'.length * 11 + 2) (.slice x.AB x.bk.length x.cB)).setIfInBounds (l'.length * 11 + 3) (.int .i64 x.dk)).setIfInBounds (l'.length * 11 + 4) (.int .i64 x.ds)).setIfInBounds (l'.length * 11 + 5) (.bool x.dl)).setIfInBounds (l'.length * 11 + 6) (.bool x.dp)).setIfInBounds (l'.length * 11 + 7) (.bool x.df)).setIfInBounds (l'.length * 11 + 8) (.int .i64 x.par)).setIfInBounds (l'.length * 11 + 9) (.int .i64 x.who)).setIfInBounds (l'.length * 11 + 10) (.slice x.AJ x.jr.length x.cJ)) (l' ++ [x]) n := by
  have hsz := h.size
  refine ⟨(has_set (has_set (has_set (has_set (has_set (has_set (has_set (has_set (has_set (has_set (has_set h.heap _ _) _ _) _ _) _ _) _ _) _ _) _ _) _ _) _ _) _ _) _ _), by simpa using h.size, fun j y hy => ?_⟩
  simp only [Array.getElem?_setIfInBounds, Array.size_setIfInBounds]
  rcases Nat.lt_or_ge j l'.length with hj | hj
  · rw [List.getElem?_append_left hj] at hy
    have := h.got j y hy
    refine ⟨?_, ?_, ?_, ?_, ?_, ?_, ?_, ?_, ?_, ?_, ?_⟩
    all_goals rw [if_neg (by omega), if_neg (by omega), if_neg (by omega), if_neg (by omega), if_neg (by omega), if_neg (by omega), if_neg (by omega), if_neg (by omega), if_neg (by omega), if_neg (by omega), if_neg (by omega)]
    · exact this.1
    · exact this.2.1
    · exact this.2.2.1
    · exact this.2.2.2.1
    · exact this.2.2.2.2.1
    · exact this.2.2.2.2.2.1
    · exact this.2.2.2.2.2.2.1
    · exact this.2.2.2.2.2.2.2.1
    · exact this.2.2.2.2.2.2.2.2.1
    · exact this.2.2.2.2.2.2.2.2.2.1
    · exact this.2.2.2.2.2.2.2.2.2.2
  · rw [List.getElem?_append_right hj] at hy
    have hjl : j = l'.length := by
      have := (List.getElem?_eq_some_iff.1 hy).1
      simp at this; omega
    subst hjl
    simp at hy
    subst hy
    refine ⟨?_, ?_, ?_, ?_, ?_, ?_, ?_, ?_, ?_, ?_, ?_⟩
    · rw [if_neg (by omega), if_neg (by omega), if_neg (by omega), if_neg (by omega), if_neg (by omega), if_neg (by omega), if_neg (by omega), if_neg (by omega), if_neg (by omega), if_neg (by omega), if_pos rfl, if_pos (by omega)]
    · rw [if_neg (by omega), if_neg (by omega), if_neg (by omega), if_neg (by omega), if_neg (by omega), if_neg (by omega), if_neg (by omega), if_neg (by omega), if_neg (by omega), if_pos rfl, if_pos (by omega)]
    · rw [if_neg (by omega), if_neg (by omega), if_neg (by omega), if_neg (by omega), if_neg (by omega), if_neg (by omega), if_neg (by omega), if_neg (by omega), if_pos rfl, if_pos (by omega)]
    · rw [if_neg (by omega), if_neg (by omega), if_neg (by omega), if_neg (by omega), if_neg (by omega), if_neg (by omega), if_neg (by omega), if_pos rfl, if_pos (by omega)]
    · rw [if_neg (by omega), if_neg (by omega), if_neg (by omega), if_neg (by omega), if_neg (by omega), if_neg (by omega), if_pos rfl, if_pos (by omega)]
    · rw [if_neg (by omega), if_neg (by omega), if_neg (by omega), if_neg (by omega), if_neg (by omega), if_pos rfl, if_pos (by omega)]
    · rw [if_neg (by omega), if_neg (by omega), if_neg (by omega), if_neg (by omega), if_pos rfl, if_pos (by omega)]
    · rw [if_neg (by omega), if_neg (by omega), if_neg (by omega), if_pos rfl, if_pos (by omega)]
    · rw [if_neg (by omega), if_neg (by omega), if_pos rfl, if_pos (by omega)]
    · rw [if_neg (by omega), if_pos rfl, if_pos (by omega)]
    · rw [if_pos rfl, if_pos (by omega)]
/-- where the rows of the sites lie: each site's in a range of its own -/
structure SitSep (w : World) (lo hi : Nat) (l : List Sit) (f : Nat → Nat × Nat) : Prop where
  row : ∀ k x, l[k]? = some x → lo ≤ (f k).1 ∧ (f k).1 ≤ (f k).2 ∧ (f k).2 ≤ hi ∧ SitAt w (f k).1 (f k).2 x
  dis : ∀ j k, j < k → k < l.length → (f j).2 ≤ (f k).1 ∨ (f k).2 ≤ (f j).1
section
variable {w w' : World} {lo hi a b : Nat} {l : List Sit} {f : Nat → Nat × Nat}
theorem SitSep.call (h : SitSep w lo hi l f) (hb : Below w.heap.size w w') : SitSep w' lo hi l f :=
  ⟨fun k x hx => by obtain ⟨h1, h2, h3, h4⟩ := h.row k x hx; exact ⟨h1, h2, h3, h4.call hb⟩, h.dis⟩
theorem SitSep.wider {lo' hi' : Nat} (h : SitSep w lo hi l f) (h1 : lo' ≤ lo) (h2 : hi ≤ hi') : SitSep w lo' hi' l f :=
  ⟨fun k x hx => by obtain ⟨q1, q2, q3, q4⟩ := h.row k x hx; exact ⟨by omega, q2, by omega, q4⟩, h.dis⟩
theorem SitSep.setlow (h : SitSep w lo hi l f) {p : Addr} (hp : p.block < lo) (v : Value) : SitSep (w.setCell p v) lo hi l f :=
  ⟨fun k x hx => by obtain ⟨q1, q2, q3, q4⟩ := h.row k x hx; exact ⟨q1, q2, q3, q4.setlow (by omega) v⟩, h.dis⟩
theorem SitSep.snoc (h : SitSep w lo hi l f) {x : Sit} (ha : hi ≤ a) (hab : a ≤ b) (hlo : lo ≤ hi) (h1 : SitAt w a b x) :
    SitSep w lo b (l ++ [x]) (fun k => if k = l.length then (a, b) else f k) := by
  refine ⟨fun k y hy => ?_, fun j k hj hk => ?_⟩
  · by_cases e : k = l.length
    · subst e
      simp at hy; subst hy
      simp only [if_true]
      exact ⟨by omega, hab, Nat.le_refl _, h1⟩
    · rw [if_neg e]
      have hk : k < l.length := by have := (List.getElem?_eq_some_iff.1 hy).1; simp at this; omega
      rw [List.getElem?_append_left hk] at hy
      obtain ⟨q1, q2, q3, q4⟩ := h.row k y hy
      exact ⟨q1, q2, by omega, q4⟩
  · simp at hk
    rw [if_neg (by omega : j ≠ l.length)]
    have hjl : j < l.length := by omega
    obtain ⟨q1, q2, q3, _⟩ := h.row j _ (List.getElem?_eq_getElem hjl)
    by_cases e : k = l.length
    · rw [if_pos e]; left; show (f j).2 ≤ a; omega
    · rw [if_neg e]; exact h.dis j k hj (by omega)
theorem SitSep.v (h : SitSep w lo hi l f) (hs : ∀ x ∈ l, szSit x ≤ 1048576) : ∀ x ∈ l, SitV w w.heap.size x := fun x hx => by
  obtain ⟨k, hk⟩ := List.getElem?_of_mem hx
  exact (h.row k x hk).2.2.2.v (hs x hx)
end
theorem szSit_cont {x y : Sit} (h : contS y = contS x) : szSit y = szSit x := by
  unfold contS at h
  simp only [Prod.mk.injEq] at h
  obtain ⟨h1, h2, h3, _, _, _, h7⟩ := h
  have h4 := totK_cont h3
  have h5 := len_cont h3
  unfold szSit
  rw [h1, h2, h4, h5, h7]
def totS (l : List Sit) : Nat := (l.map fun x => szSit x).sum
theorem totS_succ {l : List Sit} {k : Nat} {x : Sit} (h : l[k]? = some x) : totS (l.take (k + 1)) = totS (l.take k) + szSit x := by
  unfold totS; rw [List.take_add_one, h]; simp
theorem totS_mem : ∀ {l : List Sit} {x : Sit}, x ∈ l → szSit x ≤ totS l
  | [], x, h => by cases h
  | y :: r, x, h => by
    have e : totS (y :: r) = szSit y + totS r := by simp [totS]
    rcases List.mem_cons.1 h with rfl | h
    · omega
    · have := totS_mem h; omega
theorem contS_snoc {l l' : List Sit} {k : Nat} {x y : Sit} (h : l'.map contS = (l.take k).map contS) (hx : l[k]? = some x) (hy : contS y = contS x) : (l' ++ [y]).map contS = (l.take (k + 1)).map contS := by
  rw [List.take_add_one, hx]
  simp [h, hy]

set_option maxHeartbeats 1000000 in
theorem szSite_any (w : World) (B : Nat) (x : Sit) (left : Int) (h0 : 0 ≤ left) (h1 : left ≤ 1048576) (hB : B ≤ w.heap.size) (hV : SitV w B x) :
    Calls Tryz.prog 31 #[.agg #[.slice x.A1 x.o.length x.c1, .slice x.A2 x.q.length x.c2, .slice x.AB x.bk.length x.cB, .int .i64 x.dk, .int .i64 x.ds, .bool x.dl, .bool x.dp, .bool x.df, .int .i64 x.par, .int .i64 x.who, .slice x.AJ x.jr.length x.cJ], .int .i64 left] w fun e w' => ∃ r, e = .returned (.int .i64 r) ∧ (r = -1 ∨ (0 ≤ r ∧ r = left - (szSit x : Int))) ∧ Below w.heap.size w w' := by
  have HV := Lib.hid hV; clear hV
  have hw0 : ∀ (l : Int) (a b : Nat), 0 ≤ l → szW l a b = -1 ∨ (0 ≤ szW l a b ∧ szW l a b = l - a - b) := fun l a b hl => by
    unfold szW szI
    by_cases h1 : l < a
    · left; rw [if_pos h1]
    · rw [if_neg h1]
      by_cases h2 : l - a < b
      · left; rw [if_pos h2]
      · right; rw [if_neg h2]; omega
  have hi0 : ∀ (l : Int) (a : Nat), 0 ≤ l → szI l a = -1 ∨ (0 ≤ szI l a ∧ szI l a = l - a) := fun l a hl => by
    unfold szI
    by_cases h1 : l < a
    · left; rw [if_pos h1]
    · right; rw [if_neg h1]; omega
  have HW0 := Lib.hid hw0; have HI0 := Lib.hid hi0; clear hw0 hi0
  go_enter Tryz.func31, Tryz.ntmps31
  go_wp2_with fail
  generalize hX : w.alloc (.cells #[.slice x.A1 x.o.length x.c1, .slice x.A2 x.q.length x.c2, .slice x.AB x.bk.length x.cB, .int .i64 x.dk, .int .i64 x.ds, .bool x.dl, .bool x.dp, .bool x.df, .int .i64 x.par, .int .i64 x.who, .slice x.AJ x.jr.length x.cJ] 75) = w1
  have b1 : Below w.heap.size w w1 := by rw [← hX]; exact balloc _ _
  have k1 : Has w1 w.heap.size 75 #[.slice x.A1 x.o.length x.c1, .slice x.A2 x.q.length x.c2, .slice x.AB x.bk.length x.cB, .int .i64 x.dk, .int .i64 x.ds, .bool x.dl, .bool x.dp, .bool x.df, .int .i64 x.par, .int .i64 x.who, .slice x.AJ x.jr.length x.cJ] := by rw [← hX]; exact has_new _ _ _
  clear hX
  have hs1 := b1.size
  refine (szW_any w1 x.A1 x.A2 x.o.length x.c1 x.q.length x.c2 left HV.out.l1 HV.out.l2 h0 h1).mono ?_
  rintro e w2 ⟨rfl, hb2⟩
  have hr := HW0.out left x.o.length x.q.length h0
  obtain ⟨r, hr1⟩ : ∃ r, szW left x.o.length x.q.length = r := ⟨_, rfl⟩
  rw [hr1] at hr ⊢
  clear hr1
  have k2 := has_call k1 hb2; have b2 := bthen b1 hb2; have hs2 := hb2.size
  rcases hr with rfl | ⟨hr0, hre⟩
  · go_wp2_with fail
    go_ret
    exact ⟨-1, rfl, .inl rfl, b2⟩
  have HRE := Lib.hid hre; have hrl : r ≤ 1048576 := by omega
  have K2 := Lib.hid k2; have B2 := Lib.hid b2
  have q0 := has_cell k2 2 rfl; have q1 := has_lt k2; clear k1 k2 b1 b2 hb2 hre
  go_wp2_with fail
  refine (szBkL_any w2 B x.AB x.cB x.bk HV.out.l3 (by omega) ((HV.out.later hB B2.out).kb) ((HV.out.later hB B2.out).cv) r hr0 hrl).mono ?_
  rintro e w3 ⟨r2, rfl, hr2, hb3⟩
  clear q0 q1
  have k3 := has_call K2.out hb3; have b3 := bthen B2.out hb3; have hs3 := hb3.size
  rcases hr2 with rfl | ⟨hr0, hre⟩
  · go_wp2_with fail
    go_ret
    exact ⟨-1, rfl, .inl rfl, b3⟩
  have HRE2 := Lib.hid hre; have hrl2 : r2 ≤ 1048576 := by omega
  have q0 := has_cell k3 10 rfl; have q1 := has_lt k3
  have B3 := Lib.hid b3
  clear k3 b3 hb3 hre K2 B2
  go_wp2_with fail
  refine (szEvent_any w3 x.AJ x.jr.length x.cJ r2 HV.out.l4 hr0 hrl2).mono ?_
  rintro e w4 ⟨rfl, rfl⟩
  have hr := HI0.out r2 x.jr.length hr0
  obtain ⟨r3, hr3⟩ : ∃ r, szI r2 x.jr.length = r := ⟨_, rfl⟩
  rw [hr3] at hr ⊢
  clear hr3
  rcases hr with rfl | ⟨hr0, hre⟩
  · go_wp2_with fail
    go_ret
    exact ⟨-1, rfl, .inl rfl, B3.out⟩
  have HRE3 := Lib.hid hre; clear hre
  go_wp2_with fail
  go_ret
  refine ⟨r3, rfl, .inr ⟨hr0, ?_⟩, B3.out⟩
  have a := HRE.out; have b := HRE2.out; have c := HRE3.out
  unfold szSit; push_cast at b ⊢; omega
set_option maxHeartbeats 1000000 in
theorem szSiteS_any (w : World) (B : Nat) (A : Option Addr) (c : Nat) (l : List Sit) (left : Int) (hl : l.length ≤ maxLen) (h0 : 0 ≤ left) (h1 : left ≤ 1048576) (hB : B ≤ w.heap.size) (hS : SIL w B A l) (hV : ∀ x ∈ l, SitV w B x) :
    Calls Tryz.prog 13 #[.slice A l.length c, .int .i64 left] w fun e w' => ∃ r, e = .returned (.int .i64 r) ∧ (r = -1 ∨ (0 ≤ r ∧ r = left - ((l.length + totS l : Nat) : Int))) ∧ Below w.heap.size w w' := by
  unfold maxLen at hl
  have HS := Lib.hid hS; have HV := Lib.hid hV; clear hS hV
  by_cases hbig : left < l.length
  · go_enter Tryz.func13, Tryz.ntmps13
    go_wp2
    go_ret
    exact ⟨-1, rfl, .inl rfl, Below.refl _ _⟩
  · go_enter Tryz.func13, Tryz.ntmps13
    go_wp2
    go_loopw [1, 5] (fun lv i wr => ∃ (k : Nat) (r : Int), k ≤ l.length ∧ i = .int .i64 k ∧ lv = .int .i64 r ∧ 0 ≤ r ∧ r + l.length + totS (l.take k) = left ∧ Below w.heap.size w wr) (fun _ i _ => l.length - (intOf i).toNat)
    case atStart => exact ⟨0, _, Nat.zero_le _, rfl, rfl, by omega, by simp [totS], Below.refl _ _⟩
    case round =>
      obtain ⟨k, r, hk, rfl, rfl, hr0, hsm, hb⟩ := hrel
      have hr1 : r ≤ 1048576 := by omega
      have HSM := Lib.hid hsm; clear hsm
      have hsz := hb.size
      by_cases hlt : k < l.length
      · obtain ⟨b, off, x, rfl, hbB, hx, hc0, hc1, hc2, hc3, hc4, hc5, hc6, hc7, hc8, hc9, hc10⟩ := (HS.out.later hB hb).at_ hlt
        have hv := (HV.out x (List.mem_of_getElem? hx)).later hB hb
        have hsx := totS_succ hx
        have HSX := Lib.hid hsx; have HVX := Lib.hid hv; clear hsx hx hv
        have hBr : B ≤ wr.heap.size := by omega
        go_wp2_with fail
        refine (szSite_any wr B x r hr0 hr1 hBr HVX.out).mono ?_
        rintro e w1 ⟨r2, rfl, hr2, hb1⟩
        rcases hr2 with rfl | ⟨hr2, hre⟩
        · go_wp2
          go_ret
          exact ⟨-1, rfl, .inl rfl, bthen hb hb1⟩
        · have HRE := Lib.hid hre; clear hre
          go_wp2
          go_roundw
          case rel => exact ⟨k + 1, r2, by omega, by go_num, rfl, by omega, by have h1 := HSX.out; have h2 := HSM.out; have h3 := HRE.out; omega, bthen hb hb1⟩
          case measure => simp [intOf]; omega
      · go_wp2
        go_ret
        have hkl : k = l.length := by omega
        subst hkl
        have := HSM.out
        rw [List.take_length] at this
        exact ⟨r, rfl, .inr ⟨hr0, by push_cast; omega⟩, hb⟩

theorem BankAt.setlow {w : World} {lo hi : Nat} {A : Option Addr} {l : List Cl} (h : BankAt w lo hi A l) {p : Addr} (hp : p.block < lo) (v : Value) : BankAt (w.setCell p v) lo hi A l := ⟨h.1.setlow hp v, let ⟨f, hf⟩ := h.2; ⟨f, hf.setlow hp v⟩⟩
set_option maxHeartbeats 4000000 in
theorem toSite_any (w : World) (B : Nat) (x : Sit) (hz : szSit x ≤ 1048576) (hB : B ≤ w.heap.size) (hV : SitV w B x) :
    Calls Tryz.prog 41 #[.agg #[.slice x.A1 x.o.length x.c1, .slice x.A2 x.q.length x.c2, .slice x.AB x.bk.length x.cB, .int .i64 x.dk, .int .i64 x.ds, .bool x.dl, .bool x.dp, .bool x.df, .int .i64 x.par, .int .i64 x.who, .slice x.AJ x.jr.length x.cJ]] w fun e w' => ∃ y : Sit, e = .returned (.agg #[.slice y.A1 y.o.length y.c1, .slice y.A2 y.q.length y.c2, .slice y.AB y.bk.length y.cB, .int .i64 y.dk, .int .i64 y.ds, .bool y.dl, .bool y.dp, .bool y.df, .int .i64 y.par, .int .i64 y.who, .slice y.AJ y.jr.length y.cJ]) ∧ contS y = contS x ∧ SitAt w' w.heap.size w'.heap.size y ∧ Below w.heap.size w w' := by
  have hz0 : x.o.length ≤ 1048576 ∧ x.q.length ≤ 1048576 ∧ x.bk.length ≤ 1048576 ∧ x.jr.length ≤ 1048576 ∧ totK x.bk ≤ 1048576 := by unfold szSit at hz; omega
  obtain ⟨z1, z2, z3, z4, z5⟩ := hz0
  have HV := Lib.hid hV; have HSM := Lib.hid (small_tot z5); clear hV z5 hz
  go_enter Tryz.func41, Tryz.ntmps41
  go_wp2_with fail
  generalize hX : (((w.alloc (.cells #[.slice x.A1 x.o.length x.c1, .slice x.A2 x.q.length x.c2, .slice x.AB x.bk.length x.cB, .int .i64 x.dk, .int .i64 x.ds, .bool x.dl, .bool x.dp, .bool x.df, .int .i64 x.par, .int .i64 x.who, .slice x.AJ x.jr.length x.cJ] 75)).alloc (.cells #[.slice none 0 0, .slice none 0 0, .slice none 0 0, .int .i64 0, .int .i64 0, .bool false, .bool false, .bool false, .int .i64 0, .int .i64 0, .slice none 0 0] 88)).alloc (.cells #[.slice none 0 0, .slice none 0 0, .slice none 0 0, .int .i64 0, .int .i64 0, .bool false, .bool false, .bool false, .int .i64 0, .int .i64 0, .slice none 0 0] 88)) = w1
  have b1 : Below w.heap.size w w1 := by rw [← hX]; exact bthen (bthen (balloc _ _) (balloc _ _)) (balloc _ _)
  have m0 : Has w1 (w.heap.size) 75 #[.slice x.A1 x.o.length x.c1, .slice x.A2 x.q.length x.c2, .slice x.AB x.bk.length x.cB, .int .i64 x.dk, .int .i64 x.ds, .bool x.dl, .bool x.dp, .bool x.df, .int .i64 x.par, .int .i64 x.who, .slice x.AJ x.jr.length x.cJ] := by rw [← hX]; exact has_alloc (has_alloc (has_new _ _ _) _) _
  have m1 : Has w1 (w.heap.size + 1) 88 #[.slice none 0 0, .slice none 0 0, .slice none 0 0, .int .i64 0, .int .i64 0, .bool false, .bool false, .bool false, .int .i64 0, .int .i64 0, .slice none 0 0] := by rw [← hX]; have := has_alloc (has_new (w.alloc (.cells #[.slice x.A1 x.o.length x.c1, .slice x.A2 x.q.length x.c2, .slice x.AB x.bk.length x.cB, .int .i64 x.dk, .int .i64 x.ds, .bool x.dl, .bool x.dp, .bool x.df, .int .i64 x.par, .int .i64 x.who, .slice x.AJ x.jr.length x.cJ] 75)) 88 #[.slice none 0 0, .slice none 0 0, .slice none 0 0, .int .i64 0, .int .i64 0, .bool false, .bool false, .bool false, .int .i64 0, .int .i64 0, .slice none 0 0]) (.cells #[.slice none 0 0, .slice none 0 0, .slice none 0 0, .int .i64 0, .int .i64 0, .bool false, .bool false, .bool false, .int .i64 0, .int .i64 0, .slice none 0 0] 88); simpa using this
  have m2 : Has w1 (w.heap.size + 1 + 1) 88 #[.slice none 0 0, .slice none 0 0, .slice none 0 0, .int .i64 0, .int .i64 0, .bool false, .bool false, .bool false, .int .i64 0, .int .i64 0, .slice none 0 0] := by rw [← hX]; have := has_new ((w.alloc (.cells #[.slice x.A1 x.o.length x.c1, .slice x.A2 x.q.length x.c2, .slice x.AB x.bk.length x.cB, .int .i64 x.dk, .int .i64 x.ds, .bool x.dl, .bool x.dp, .bool x.df, .int .i64 x.par, .int .i64 x.who, .slice x.AJ x.jr.length x.cJ] 75)).alloc (.cells #[.slice none 0 0, .slice none 0 0, .slice none 0 0, .int .i64 0, .int .i64 0, .bool false, .bool false, .bool false, .int .i64 0, .int .i64 0, .slice none 0 0] 88)) 88 #[.slice none 0 0, .slice none 0 0, .slice none 0 0, .int .i64 0, .int .i64 0, .bool false, .bool false, .bool false, .int .i64 0, .int .i64 0, .slice none 0 0]; simpa using this
  clear hX
  have hs1 := has_lt m2
  have M0 := Lib.hid m0; have M1 := Lib.hid m1; have M2 := Lib.hid m2; have BB := Lib.hid b1; clear m0 m1 m2 b1
  refine (toWeekR_any w1 B x.A1 x.A2 x.c1 x.c2 x.o x.q z1 z2 (by omega) ((HV.out.later hB BB.out).so) ((HV.out.later hB BB.out).sq)).mono ?_
  rintro e w2 ⟨A1, A2, c1, c2, mw, rfl, hm1, hm2, ho1, ho2, hb⟩
  have O1 := Lib.hid ho1; have O2 := Lib.hid ho2; clear ho1 ho2
  have kk := has_call M0.out hb; clear M0; have M0 := Lib.hid kk; clear kk
  have kk := has_call M1.out hb; clear M1; have M1 := Lib.hid kk; clear kk
  have kk := has_call M2.out hb; clear M2; have M2 := Lib.hid kk; clear kk
  have kk := bthen BB.out hb; clear BB; have BB := Lib.hid kk; clear kk
  have hsw2 := hb.size; clear hb
  have a2 := has_cell M0.out 2 rfl
  have c0 := has_cell M2.out 0 rfl; have d0 := has_free M2.out 0
  have c1 := has_cell M2.out 1 rfl; have d1 := has_free M2.out 1
  have l0 := has_lt M0.out; have l1 := has_lt M1.out; have l2 := has_lt M2.out
  go_wp2_with fail
  clear a2 c0 d0 c1 d1 l0 l1 l2
  generalize hX : ((w2.setCell ⟨w.heap.size + 1 + 1, 0, none⟩ (.slice A1 x.o.length c1)).setCell ⟨w.heap.size + 1 + 1, 1, none⟩ (.slice A2 x.q.length c2)) = w3
  have m2 : Has w3 (w.heap.size + 1 + 1) 88 #[.slice A1 x.o.length c1, .slice A2 x.q.length c2, .slice none 0 0, .int .i64 0, .int .i64 0, .bool false, .bool false, .bool false, .int .i64 0, .int .i64 0, .slice none 0 0] := by rw [← hX]; have h9 := (has_set (has_set M2.out 0 (.slice A1 x.o.length c1)) 1 (.slice A2 x.q.length c2)); simpa using h9
  have m0 : Has w3 (w.heap.size) 75 #[.slice x.A1 x.o.length x.c1, .slice x.A2 x.q.length x.c2, .slice x.AB x.bk.length x.cB, .int .i64 x.dk, .int .i64 x.ds, .bool x.dl, .bool x.dp, .bool x.df, .int .i64 x.par, .int .i64 x.who, .slice x.AJ x.jr.length x.cJ] := by rw [← hX]; exact (has_far (has_far M0.out (p := ⟨w.heap.size + 1 + 1, 0, none⟩) (show w.heap.size ≠ w.heap.size + 1 + 1 by omega) (.slice A1 x.o.length c1)) (p := ⟨w.heap.size + 1 + 1, 1, none⟩) (show w.heap.size ≠ w.heap.size + 1 + 1 by omega) (.slice A2 x.q.length c2))
  have m1 : Has w3 (w.heap.size + 1) 88 #[.slice none 0 0, .slice none 0 0, .slice none 0 0, .int .i64 0, .int .i64 0, .bool false, .bool false, .bool false, .int .i64 0, .int .i64 0, .slice none 0 0] := by rw [← hX]; exact (has_far (has_far M1.out (p := ⟨w.heap.size + 1 + 1, 0, none⟩) (show w.heap.size + 1 ≠ w.heap.size + 1 + 1 by omega) (.slice A1 x.o.length c1)) (p := ⟨w.heap.size + 1 + 1, 1, none⟩) (show w.heap.size + 1 ≠ w.heap.size + 1 + 1 by omega) (.slice A2 x.q.length c2))
  have b9 : Below w.heap.size w w3 := by rw [← hX]; exact ((BB.out.setCell (p := ⟨w.heap.size + 1 + 1, 0, none⟩) (by simp; omega) (.slice A1 x.o.length c1)).setCell (p := ⟨w.heap.size + 1 + 1, 1, none⟩) (by simp; omega) (.slice A2 x.q.length c2))
  have hsw3 : w3.heap.size = w2.heap.size := by rw [← hX]; simp only [size_set]
  have kk : OI w3 w1.heap.size mw 169 A1 (spnV x.o) := by rw [← hX]; exact ((O1.out.setlow (p := ⟨w.heap.size + 1 + 1, 0, none⟩) (by simp; omega) (.slice A1 x.o.length c1)).setlow (p := ⟨w.heap.size + 1 + 1, 1, none⟩) (by simp; omega) (.slice A2 x.q.length c2))
  clear O1; have O1 := Lib.hid kk; clear kk
  have kk : OI w3 mw w2.heap.size 169 A2 (spnV x.q) := by rw [← hX]; exact ((O2.out.setlow (p := ⟨w.heap.size + 1 + 1, 0, none⟩) (by simp; omega) (.slice A1 x.o.length c1)).setlow (p := ⟨w.heap.size + 1 + 1, 1, none⟩) (by simp; omega) (.slice A2 x.q.length c2))
  clear O2; have O2 := Lib.hid kk; clear kk
  clear hX M0 M1 M2 BB
  have M0 := Lib.hid m0; have M1 := Lib.hid m1; have M2 := Lib.hid m2; have BB := Lib.hid b9; clear m0 m1 m2 b9
  refine (toBank_any w3 B x.AB x.cB x.bk z3 HSM.out (by omega) ((HV.out.later hB BB.out).kb) ((HV.out.later hB BB.out).cv)).mono ?_
  rintro e w4 ⟨AB, bk', rfl, hct, hba, hb⟩
  have HCT := Lib.hid hct; have O3 := Lib.hid hba; clear hct hba
  have kk := has_call M0.out hb; clear M0; have M0 := Lib.hid kk; clear kk
  have kk := has_call M1.out hb; clear M1; have M1 := Lib.hid kk; clear kk
  have kk := has_call M2.out hb; clear M2; have M2 := Lib.hid kk; clear kk
  have kk := O1.out.call hb; clear O1; have O1 := Lib.hid kk; clear kk
  have kk := O2.out.call hb; clear O2; have O2 := Lib.hid kk; clear kk
  have kk := bthen BB.out hb; clear BB; have BB := Lib.hid kk; clear kk
  have hsw4 := hb.size; clear hb
  have a3 := has_cell M0.out 3 rfl
  have a4 := has_cell M0.out 4 rfl
  have a5 := has_cell M0.out 5 rfl
  have a6 := has_cell M0.out 6 rfl
  have a7 := has_cell M0.out 7 rfl
  have c2 := has_cell M2.out 2 rfl; have d2 := has_free M2.out 2
  have l0 := has_lt M0.out; have l1 := has_lt M1.out; have l2 := has_lt M2.out
  go_wp2_with fail
  clear a3 a4 a5 a6 a7 c2 d2 l0 l1 l2
  have hX0 : True := trivial
  generalize hX : (w4.setCell ⟨w.heap.size + 1 + 1, 2, none⟩ (.slice AB bk'.length x.bk.length)) = w5
  have m2 : Has w5 (w.heap.size + 1 + 1) 88 #[.slice A1 x.o.length c1, .slice A2 x.q.length c2, .slice AB bk'.length x.bk.length, .int .i64 0, .int .i64 0, .bool false, .bool false, .bool false, .int .i64 0, .int .i64 0, .slice none 0 0] := by rw [← hX]; have h9 := (has_set M2.out 2 (.slice AB bk'.length x.bk.length)); simpa using h9
  have m0 : Has w5 (w.heap.size) 75 #[.slice x.A1 x.o.length x.c1, .slice x.A2 x.q.length x.c2, .slice x.AB x.bk.length x.cB, .int .i64 x.dk, .int .i64 x.ds, .bool x.dl, .bool x.dp, .bool x.df, .int .i64 x.par, .int .i64 x.who, .slice x.AJ x.jr.length x.cJ] := by rw [← hX]; exact (has_far M0.out (p := ⟨w.heap.size + 1 + 1, 2, none⟩) (show w.heap.size ≠ w.heap.size + 1 + 1 by omega) (.slice AB bk'.length x.bk.length))
  have m1 : Has w5 (w.heap.size + 1) 88 #[.slice none 0 0, .slice none 0 0, .slice none 0 0, .int .i64 0, .int .i64 0, .bool false, .bool false, .bool false, .int .i64 0, .int .i64 0, .slice none 0 0] := by rw [← hX]; exact (has_far M1.out (p := ⟨w.heap.size + 1 + 1, 2, none⟩) (show w.heap.size + 1 ≠ w.heap.size + 1 + 1 by omega) (.slice AB bk'.length x.bk.length))
  have b9 : Below w.heap.size w w5 := by rw [← hX]; exact (BB.out.setCell (p := ⟨w.heap.size + 1 + 1, 2, none⟩) (by simp; omega) (.slice AB bk'.length x.bk.length))
  have hsw5 : w5.heap.size = w4.heap.size := by rw [← hX]; simp only [size_set]
  have kk : OI w5 w1.heap.size mw 169 A1 (spnV x.o) := by rw [← hX]; exact (O1.out.setlow (p := ⟨w.heap.size + 1 + 1, 2, none⟩) (by simp; omega) (.slice AB bk'.length x.bk.length))
  clear O1; have O1 := Lib.hid kk; clear kk
  have kk : OI w5 mw w2.heap.size 169 A2 (spnV x.q) := by rw [← hX]; exact (O2.out.setlow (p := ⟨w.heap.size + 1 + 1, 2, none⟩) (by simp; omega) (.slice AB bk'.length x.bk.length))
  clear O2; have O2 := Lib.hid kk; clear kk
  have kk : BankAt w5 w3.heap.size w4.heap.size AB bk' := by rw [← hX]; exact (O3.out.setlow (p := ⟨w.heap.size + 1 + 1, 2, none⟩) (by simp; omega) (.slice AB bk'.length x.bk.length))
  clear O3; have O3 := Lib.hid kk; clear kk
  clear hX M0 M1 M2 BB
  have M0 := Lib.hid m0; have M1 := Lib.hid m1; have M2 := Lib.hid m2; have BB := Lib.hid b9; clear m0 m1 m2 b9
  refine (toDoor_any w5 x.dk x.ds x.dl x.dp x.df).mono ?_
  rintro e w6 ⟨rfl, hb⟩
  have kk := has_call M0.out hb; clear M0; have M0 := Lib.hid kk; clear kk
  have kk := has_call M1.out hb; clear M1; have M1 := Lib.hid kk; clear kk
  have kk := has_call M2.out hb; clear M2; have M2 := Lib.hid kk; clear kk
  have kk := O1.out.call hb; clear O1; have O1 := Lib.hid kk; clear kk
  have kk := O2.out.call hb; clear O2; have O2 := Lib.hid kk; clear kk
  have kk := O3.out.call hb; clear O3; have O3 := Lib.hid kk; clear kk
  have kk := bthen BB.out hb; clear BB; have BB := Lib.hid kk; clear kk
  have hsw6 := hb.size; clear hb
  have a8 := has_cell M0.out 8 rfl
  have a9 := has_cell M0.out 9 rfl
  have a10 := has_cell M0.out 10 rfl
  have c3 := has_cell M2.out 3 rfl; have d3 := has_free M2.out 3
  have c4 := has_cell M2.out 4 rfl; have d4 := has_free M2.out 4
  have c5 := has_cell M2.out 5 rfl; have d5 := has_free M2.out 5
  have c6 := has_cell M2.out 6 rfl; have d6 := has_free M2.out 6
  have c7 := has_cell M2.out 7 rfl; have d7 := has_free M2.out 7
  have c8 := has_cell M2.out 8 rfl; have d8 := has_free M2.out 8
  have c9 := has_cell M2.out 9 rfl; have d9 := has_free M2.out 9
  have l0 := has_lt M0.out; have l1 := has_lt M1.out; have l2 := has_lt M2.out
  go_wp2_with fail
  clear a8 a9 a10 c3 d3 c4 d4 c5 d5 c6 d6 c7 d7 c8 d8 c9 d9 l0 l1 l2
  generalize hX : (((((((w6.setCell ⟨w.heap.size + 1 + 1, 3, none⟩ (.int .i64 x.dk)).setCell ⟨w.heap.size + 1 + 1, 4, none⟩ (.int .i64 x.ds)).setCell ⟨w.heap.size + 1 + 1, 5, none⟩ (.bool x.dl)).setCell ⟨w.heap.size + 1 + 1, 6, none⟩ (.bool x.dp)).setCell ⟨w.heap.size + 1 + 1, 7, none⟩ (.bool x.df)).setCell ⟨w.heap.size + 1 + 1, 8, none⟩ (.int .i64 x.par)).setCell ⟨w.heap.size + 1 + 1, 9, none⟩ (.int .i64 x.who)) = w7
  have m2 : Has w7 (w.heap.size + 1 + 1) 88 #[.slice A1 x.o.length c1, .slice A2 x.q.length c2, .slice AB bk'.length x.bk.length, .int .i64 x.dk, .int .i64 x.ds, .bool x.dl, .bool x.dp, .bool x.df, .int .i64 x.par, .int .i64 x.who, .slice none 0 0] := by rw [← hX]; have h9 := (has_set (has_set (has_set (has_set (has_set (has_set (has_set M2.out 3 (.int .i64 x.dk)) 4 (.int .i64 x.ds)) 5 (.bool x.dl)) 6 (.bool x.dp)) 7 (.bool x.df)) 8 (.int .i64 x.par)) 9 (.int .i64 x.who)); simpa using h9
  have m0 : Has w7 (w.heap.size) 75 #[.slice x.A1 x.o.length x.c1, .slice x.A2 x.q.length x.c2, .slice x.AB x.bk.length x.cB, .int .i64 x.dk, .int .i64 x.ds, .bool x.dl, .bool x.dp, .bool x.df, .int .i64 x.par, .int .i64 x.who, .slice x.AJ x.jr.length x.cJ] := by rw [← hX]; exact (has_far (has_far (has_far (has_far (has_far (has_far (has_far M0.out (p := ⟨w.heap.size + 1 + 1, 3, none⟩) (show w.heap.size ≠ w.heap.size + 1 + 1 by omega) (.int .i64 x.dk)) (p := ⟨w.heap.size + 1 + 1, 4, none⟩) (show w.heap.size ≠ w.heap.size + 1 + 1 by omega) (.int .i64 x.ds)) (p := ⟨w.heap.size + 1 + 1, 5, none⟩) (show w.heap.size ≠ w.heap.size + 1 + 1 by omega) (.bool x.dl)) (p := ⟨w.heap.size + 1 + 1, 6, none⟩) (show w.heap.size ≠ w.heap.size + 1 + 1 by omega) (.bool x.dp)) (p := ⟨w.heap.size + 1 + 1, 7, none⟩) (show w.heap.size ≠ w.heap.size + 1 + 1 by omega) (.bool x.df)) (p := ⟨w.heap.size + 1 + 1, 8, none⟩) (show w.heap.size ≠ w.heap.size + 1 + 1 by omega) (.int .i64 x.par)) (p := ⟨w.heap.size + 1 + 1, 9, none⟩) (show w.heap.size ≠ w.heap.size + 1 + 1 by omega) (.int .i64 x.who))
  have m1 : Has w7 (w.heap.size + 1) 88 #[.slice none 0 0, .slice none 0 0, .slice none 0 0, .int .i64 0, .int .i64 0, .bool false, .bool false, .bool false, .int .i64 0, .int .i64 0, .slice none 0 0] := by rw [← hX]; exact (has_far (has_far (has_far (has_far (has_far (has_far (has_far M1.out (p := ⟨w.heap.size + 1 + 1, 3, none⟩) (show w.heap.size + 1 ≠ w.heap.size + 1 + 1 by omega) (.int .i64 x.dk)) (p := ⟨w.heap.size + 1 + 1, 4, none⟩) (show w.heap.size + 1 ≠ w.heap.size + 1 + 1 by omega) (.int .i64 x.ds)) (p := ⟨w.heap.size + 1 + 1, 5, none⟩) (show w.heap.size + 1 ≠ w.heap.size + 1 + 1 by omega) (.bool x.dl)) (p := ⟨w.heap.size + 1 + 1, 6, none⟩) (show w.heap.size + 1 ≠ w.heap.size + 1 + 1 by omega) (.bool x.dp)) (p := ⟨w.heap.size + 1 + 1, 7, none⟩) (show w.heap.size + 1 ≠ w.heap.size + 1 + 1 by omega) (.bool x.df)) (p := ⟨w.heap.size + 1 + 1, 8, none⟩) (show w.heap.size + 1 ≠ w.heap.size + 1 + 1 by omega) (.int .i64 x.par)) (p := ⟨w.heap.size + 1 + 1, 9, none⟩) (show w.heap.size + 1 ≠ w.heap.size + 1 + 1 by omega) (.int .i64 x.who))
  have b9 : Below w.heap.size w w7 := by rw [← hX]; exact (((((((BB.out.setCell (p := ⟨w.heap.size + 1 + 1, 3, none⟩) (by simp; omega) (.int .i64 x.dk)).setCell (p := ⟨w.heap.size + 1 + 1, 4, none⟩) (by simp; omega) (.int .i64 x.ds)).setCell (p := ⟨w.heap.size + 1 + 1, 5, none⟩) (by simp; omega) (.bool x.dl)).setCell (p := ⟨w.heap.size + 1 + 1, 6, none⟩) (by simp; omega) (.bool x.dp)).setCell (p := ⟨w.heap.size + 1 + 1, 7, none⟩) (by simp; omega) (.bool x.df)).setCell (p := ⟨w.heap.size + 1 + 1, 8, none⟩) (by simp; omega) (.int .i64 x.par)).setCell (p := ⟨w.heap.size + 1 + 1, 9, none⟩) (by simp; omega) (.int .i64 x.who))
  have hsw7 : w7.heap.size = w6.heap.size := by rw [← hX]; simp only [size_set]
  have kk : OI w7 w1.heap.size mw 169 A1 (spnV x.o) := by rw [← hX]; exact (((((((O1.out.setlow (p := ⟨w.heap.size + 1 + 1, 3, none⟩) (by simp; omega) (.int .i64 x.dk)).setlow (p := ⟨w.heap.size + 1 + 1, 4, none⟩) (by simp; omega) (.int .i64 x.ds)).setlow (p := ⟨w.heap.size + 1 + 1, 5, none⟩) (by simp; omega) (.bool x.dl)).setlow (p := ⟨w.heap.size + 1 + 1, 6, none⟩) (by simp; omega) (.bool x.dp)).setlow (p := ⟨w.heap.size + 1 + 1, 7, none⟩) (by simp; omega) (.bool x.df)).setlow (p := ⟨w.heap.size + 1 + 1, 8, none⟩) (by simp; omega) (.int .i64 x.par)).setlow (p := ⟨w.heap.size + 1 + 1, 9, none⟩) (by simp; omega) (.int .i64 x.who))
  clear O1; have O1 := Lib.hid kk; clear kk
  have kk : OI w7 mw w2.heap.size 169 A2 (spnV x.q) := by rw [← hX]; exact (((((((O2.out.setlow (p := ⟨w.heap.size + 1 + 1, 3, none⟩) (by simp; omega) (.int .i64 x.dk)).setlow (p := ⟨w.heap.size + 1 + 1, 4, none⟩) (by simp; omega) (.int .i64 x.ds)).setlow (p := ⟨w.heap.size + 1 + 1, 5, none⟩) (by simp; omega) (.bool x.dl)).setlow (p := ⟨w.heap.size + 1 + 1, 6, none⟩) (by simp; omega) (.bool x.dp)).setlow (p := ⟨w.heap.size + 1 + 1, 7, none⟩) (by simp; omega) (.bool x.df)).setlow (p := ⟨w.heap.size + 1 + 1, 8, none⟩) (by simp; omega) (.int .i64 x.par)).setlow (p := ⟨w.heap.size + 1 + 1, 9, none⟩) (by simp; omega) (.int .i64 x.who))
  clear O2; have O2 := Lib.hid kk; clear kk
  have kk : BankAt w7 w3.heap.size w4.heap.size AB bk' := by rw [← hX]; exact (((((((O3.out.setlow (p := ⟨w.heap.size + 1 + 1, 3, none⟩) (by simp; omega) (.int .i64 x.dk)).setlow (p := ⟨w.heap.size + 1 + 1, 4, none⟩) (by simp; omega) (.int .i64 x.ds)).setlow (p := ⟨w.heap.size + 1 + 1, 5, none⟩) (by simp; omega) (.bool x.dl)).setlow (p := ⟨w.heap.size + 1 + 1, 6, none⟩) (by simp; omega) (.bool x.dp)).setlow (p := ⟨w.heap.size + 1 + 1, 7, none⟩) (by simp; omega) (.bool x.df)).setlow (p := ⟨w.heap.size + 1 + 1, 8, none⟩) (by simp; omega) (.int .i64 x.par)).setlow (p := ⟨w.heap.size + 1 + 1, 9, none⟩) (by simp; omega) (.int .i64 x.who))
  clear O3; have O3 := Lib.hid kk; clear kk
  clear hX M0 M1 M2 BB
  have M0 := Lib.hid m0; have M1 := Lib.hid m1; have M2 := Lib.hid m2; have BB := Lib.hid b9; clear m0 m1 m2 b9
  refine (toEventS_any w7 B x.AJ x.cJ x.jr z4 (by omega) ((HV.out.later hB BB.out).ej)).mono ?_
  rintro e w8 ⟨AJ, cJ, rfl, hoj, hb⟩
  have O4 := Lib.hid (OI.of_or hoj); clear hoj
  have kk := has_call M0.out hb; clear M0; have M0 := Lib.hid kk; clear kk
  have kk := has_call M1.out hb; clear M1; have M1 := Lib.hid kk; clear kk
  have kk := has_call M2.out hb; clear M2; have M2 := Lib.hid kk; clear kk
  have kk := O1.out.call hb; clear O1; have O1 := Lib.hid kk; clear kk
  have kk := O2.out.call hb; clear O2; have O2 := Lib.hid kk; clear kk
  have kk := O3.out.call hb; clear O3; have O3 := Lib.hid kk; clear kk
  have kk := bthen BB.out hb; clear BB; have BB := Lib.hid kk; clear kk
  have hsw8 := hb.size; clear hb
  have c0 := has_cell M2.out 0 rfl; have d0 := has_free M2.out 0
  have c1 := has_cell M2.out 1 rfl; have d1 := has_free M2.out 1
  have c2 := has_cell M2.out 2 rfl; have d2 := has_free M2.out 2
  have c3 := has_cell M2.out 3 rfl; have d3 := has_free M2.out 3
  have c4 := has_cell M2.out 4 rfl; have d4 := has_free M2.out 4
  have c5 := has_cell M2.out 5 rfl; have d5 := has_free M2.out 5
  have c6 := has_cell M2.out 6 rfl; have d6 := has_free M2.out 6
  have c7 := has_cell M2.out 7 rfl; have d7 := has_free M2.out 7
  have c8 := has_cell M2.out 8 rfl; have d8 := has_free M2.out 8
  have c9 := has_cell M2.out 9 rfl; have d9 := has_free M2.out 9
  have c10 := has_cell M2.out 10 rfl; have d10 := has_free M2.out 10
  have l0 := has_lt M0.out; have l1 := has_lt M1.out; have l2 := has_lt M2.out
  have t0 := has_cell M1.out 0 rfl; have u0 := has_free M1.out 0; have t1 := has_cell M1.out 1 rfl; have u1 := has_free M1.out 1; have t2 := has_cell M1.out 2 rfl; have u2 := has_free M1.out 2; have t3 := has_cell M1.out 3 rfl; have u3 := has_free M1.out 3; have t4 := has_cell M1.out 4 rfl; have u4 := has_free M1.out 4; have t5 := has_cell M1.out 5 rfl; have u5 := has_free M1.out 5; have t6 := has_cell M1.out 6 rfl; have u6 := has_free M1.out 6; have t7 := has_cell M1.out 7 rfl; have u7 := has_free M1.out 7; have t8 := has_cell M1.out 8 rfl; have u8 := has_free M1.out 8; have t9 := has_cell M1.out 9 rfl; have u9 := has_free M1.out 9; have t10 := has_cell M1.out 10 rfl; have u10 := has_free M1.out 10
  go_wp2_with fail
  clear t0 u0 t1 u1 t2 u2 t3 u3 t4 u4 t5 u5 t6 u6 t7 u7 t8 u8 t9 u9 t10 u10
  clear c0 d0 c1 d1 c2 d2 c3 d3 c4 d4 c5 d5 c6 d6 c7 d7 c8 d8 c9 d9 c10 d10 l0 l1 l2
  have hf : Has ((((((((((((w8.setCell ⟨w.heap.size + 1 + 1, 10, none⟩ (.slice AJ x.jr.length cJ)).setCell ⟨w.heap.size + 1, 0, none⟩ (.slice A1 x.o.length c1)).setCell ⟨w.heap.size + 1, 1, none⟩ (.slice A2 x.q.length c2)).setCell ⟨w.heap.size + 1, 2, none⟩ (.slice AB bk'.length x.bk.length)).setCell ⟨w.heap.size + 1, 3, none⟩ (.int .i64 x.dk)).setCell ⟨w.heap.size + 1, 4, none⟩ (.int .i64 x.ds)).setCell ⟨w.heap.size + 1, 5, none⟩ (.bool x.dl)).setCell ⟨w.heap.size + 1, 6, none⟩ (.bool x.dp)).setCell ⟨w.heap.size + 1, 7, none⟩ (.bool x.df)).setCell ⟨w.heap.size + 1, 8, none⟩ (.int .i64 x.par)).setCell ⟨w.heap.size + 1, 9, none⟩ (.int .i64 x.who)).setCell ⟨w.heap.size + 1, 10, none⟩ (.slice AJ x.jr.length cJ)) (w.heap.size + 1) 88 #[.slice A1 x.o.length c1, .slice A2 x.q.length c2, .slice AB bk'.length x.bk.length, .int .i64 x.dk, .int .i64 x.ds, .bool x.dl, .bool x.dp, .bool x.df, .int .i64 x.par, .int .i64 x.who, .slice AJ x.jr.length cJ] := by
    have h9 := (has_set (has_set (has_set (has_set (has_set (has_set (has_set (has_set (has_set (has_set (has_set (has_far M1.out (p := ⟨w.heap.size + 1 + 1, 10, none⟩) (show w.heap.size + 1 ≠ w.heap.size + 1 + 1 by omega) (.slice AJ x.jr.length cJ)) 0 (.slice A1 x.o.length c1)) 1 (.slice A2 x.q.length c2)) 2 (.slice AB bk'.length x.bk.length)) 3 (.int .i64 x.dk)) 4 (.int .i64 x.ds)) 5 (.bool x.dl)) 6 (.bool x.dp)) 7 (.bool x.df)) 8 (.int .i64 x.par)) 9 (.int .i64 x.who)) 10 (.slice AJ x.jr.length cJ))
    simp only [l9a, l9z, l9s] at h9
    exact h9
  have g0 := has_cell hf 0 rfl; have g1 := has_cell hf 1 rfl; have g2 := has_cell hf 2 rfl; have g3 := has_cell hf 3 rfl; have g4 := has_cell hf 4 rfl; have g5 := has_cell hf 5 rfl; have g6 := has_cell hf 6 rfl; have g7 := has_cell hf 7 rfl; have g8 := has_cell hf 8 rfl; have g9 := has_cell hf 9 rfl; have g10 := has_cell hf 10 rfl
  clear hf
  refine bodyPost_ret (v := .agg #[.slice A1 x.o.length c1, .slice A2 x.q.length c2, .slice AB bk'.length x.bk.length, .int .i64 x.dk, .int .i64 x.ds, .bool x.dl, .bool x.dp, .bool x.df, .int .i64 x.par, .int .i64 x.who, .slice AJ x.jr.length cJ]) (by simp [results, Tryz.results41, go_sem, g0, g1, g2, g3, g4, g5, g6, g7, g8, g9, g10]) rfl ⟨⟨A1, x.o, c1, A2, x.q, c2, AB, bk', x.bk.length, x.dk, x.ds, x.dl, x.dp, x.df, x.par, x.who, AJ, x.jr, cJ⟩, rfl, ?_, ?_, ((((((((((((BB.out.setCell (p := ⟨w.heap.size + 1 + 1, 10, none⟩) (by simp; omega) (.slice AJ x.jr.length cJ)).setCell (p := ⟨w.heap.size + 1, 0, none⟩) (by simp) (.slice A1 x.o.length c1)).setCell (p := ⟨w.heap.size + 1, 1, none⟩) (by simp) (.slice A2 x.q.length c2)).setCell (p := ⟨w.heap.size + 1, 2, none⟩) (by simp) (.slice AB bk'.length x.bk.length)).setCell (p := ⟨w.heap.size + 1, 3, none⟩) (by simp) (.int .i64 x.dk)).setCell (p := ⟨w.heap.size + 1, 4, none⟩) (by simp) (.int .i64 x.ds)).setCell (p := ⟨w.heap.size + 1, 5, none⟩) (by simp) (.bool x.dl)).setCell (p := ⟨w.heap.size + 1, 6, none⟩) (by simp) (.bool x.dp)).setCell (p := ⟨w.heap.size + 1, 7, none⟩) (by simp) (.bool x.df)).setCell (p := ⟨w.heap.size + 1, 8, none⟩) (by simp) (.int .i64 x.par)).setCell (p := ⟨w.heap.size + 1, 9, none⟩) (by simp) (.int .i64 x.who)).setCell (p := ⟨w.heap.size + 1, 10, none⟩) (by simp) (.slice AJ x.jr.length cJ))⟩
  · unfold contS; dsimp only; rw [HCT.out]
  · refine ⟨mw, w2.heap.size, w4.heap.size, by omega, by omega, by omega, by simp only [size_set]; omega, ?_, ?_, ?_, ?_⟩
    · exact OI.wider ((((((((((((O1.out.setlow (p := ⟨w.heap.size + 1 + 1, 10, none⟩) (by simp; omega) (.slice AJ x.jr.length cJ)).setlow (p := ⟨w.heap.size + 1, 0, none⟩) (by simp; omega) (.slice A1 x.o.length c1)).setlow (p := ⟨w.heap.size + 1, 1, none⟩) (by simp; omega) (.slice A2 x.q.length c2)).setlow (p := ⟨w.heap.size + 1, 2, none⟩) (by simp; omega) (.slice AB bk'.length x.bk.length)).setlow (p := ⟨w.heap.size + 1, 3, none⟩) (by simp; omega) (.int .i64 x.dk)).setlow (p := ⟨w.heap.size + 1, 4, none⟩) (by simp; omega) (.int .i64 x.ds)).setlow (p := ⟨w.heap.size + 1, 5, none⟩) (by simp; omega) (.bool x.dl)).setlow (p := ⟨w.heap.size + 1, 6, none⟩) (by simp; omega) (.bool x.dp)).setlow (p := ⟨w.heap.size + 1, 7, none⟩) (by simp; omega) (.bool x.df)).setlow (p := ⟨w.heap.size + 1, 8, none⟩) (by simp; omega) (.int .i64 x.par)).setlow (p := ⟨w.heap.size + 1, 9, none⟩) (by simp; omega) (.int .i64 x.who)).setlow (p := ⟨w.heap.size + 1, 10, none⟩) (by simp; omega) (.slice AJ x.jr.length cJ)) (by omega) (Nat.le_refl _)
    · exact ((((((((((((O2.out.setlow (p := ⟨w.heap.size + 1 + 1, 10, none⟩) (by simp; omega) (.slice AJ x.jr.length cJ)).setlow (p := ⟨w.heap.size + 1, 0, none⟩) (by simp; omega) (.slice A1 x.o.length c1)).setlow (p := ⟨w.heap.size + 1, 1, none⟩) (by simp; omega) (.slice A2 x.q.length c2)).setlow (p := ⟨w.heap.size + 1, 2, none⟩) (by simp; omega) (.slice AB bk'.length x.bk.length)).setlow (p := ⟨w.heap.size + 1, 3, none⟩) (by simp; omega) (.int .i64 x.dk)).setlow (p := ⟨w.heap.size + 1, 4, none⟩) (by simp; omega) (.int .i64 x.ds)).setlow (p := ⟨w.heap.size + 1, 5, none⟩) (by simp; omega) (.bool x.dl)).setlow (p := ⟨w.heap.size + 1, 6, none⟩) (by simp; omega) (.bool x.dp)).setlow (p := ⟨w.heap.size + 1, 7, none⟩) (by simp; omega) (.bool x.df)).setlow (p := ⟨w.heap.size + 1, 8, none⟩) (by simp; omega) (.int .i64 x.par)).setlow (p := ⟨w.heap.size + 1, 9, none⟩) (by simp; omega) (.int .i64 x.who)).setlow (p := ⟨w.heap.size + 1, 10, none⟩) (by simp; omega) (.slice AJ x.jr.length cJ))
    · exact BankAt.wider (BankAt.setlow (BankAt.setlow (BankAt.setlow (BankAt.setlow (BankAt.setlow (BankAt.setlow (BankAt.setlow (BankAt.setlow (BankAt.setlow (BankAt.setlow (BankAt.setlow (BankAt.setlow O3.out (p := ⟨w.heap.size + 1 + 1, 10, none⟩) (by simp; omega) (.slice AJ x.jr.length cJ)) (p := ⟨w.heap.size + 1, 0, none⟩) (by simp; omega) (.slice A1 x.o.length c1)) (p := ⟨w.heap.size + 1, 1, none⟩) (by simp; omega) (.slice A2 x.q.length c2)) (p := ⟨w.heap.size + 1, 2, none⟩) (by simp; omega) (.slice AB bk'.length x.bk.length)) (p := ⟨w.heap.size + 1, 3, none⟩) (by simp; omega) (.int .i64 x.dk)) (p := ⟨w.heap.size + 1, 4, none⟩) (by simp; omega) (.int .i64 x.ds)) (p := ⟨w.heap.size + 1, 5, none⟩) (by simp; omega) (.bool x.dl)) (p := ⟨w.heap.size + 1, 6, none⟩) (by simp; omega) (.bool x.dp)) (p := ⟨w.heap.size + 1, 7, none⟩) (by simp; omega) (.bool x.df)) (p := ⟨w.heap.size + 1, 8, none⟩) (by simp; omega) (.int .i64 x.par)) (p := ⟨w.heap.size + 1, 9, none⟩) (by simp; omega) (.int .i64 x.who)) (p := ⟨w.heap.size + 1, 10, none⟩) (by simp; omega) (.slice AJ x.jr.length cJ)) (by omega) (Nat.le_refl _)
    · exact OI.wider ((((((((((((O4.out.setlow (p := ⟨w.heap.size + 1 + 1, 10, none⟩) (by simp; omega) (.slice AJ x.jr.length cJ)).setlow (p := ⟨w.heap.size + 1, 0, none⟩) (by simp; omega) (.slice A1 x.o.length c1)).setlow (p := ⟨w.heap.size + 1, 1, none⟩) (by simp; omega) (.slice A2 x.q.length c2)).setlow (p := ⟨w.heap.size + 1, 2, none⟩) (by simp; omega) (.slice AB bk'.length x.bk.length)).setlow (p := ⟨w.heap.size + 1, 3, none⟩) (by simp; omega) (.int .i64 x.dk)).setlow (p := ⟨w.heap.size + 1, 4, none⟩) (by simp; omega) (.int .i64 x.ds)).setlow (p := ⟨w.heap.size + 1, 5, none⟩) (by simp; omega) (.bool x.dl)).setlow (p := ⟨w.heap.size + 1, 6, none⟩) (by simp; omega) (.bool x.dp)).setlow (p := ⟨w.heap.size + 1, 7, none⟩) (by simp; omega) (.bool x.df)).setlow (p := ⟨w.heap.size + 1, 8, none⟩) (by simp; omega) (.int .i64 x.par)).setlow (p := ⟨w.heap.size + 1, 9, none⟩) (by simp; omega) (.int .i64 x.who)).setlow (p := ⟨w.heap.size + 1, 10, none⟩) (by simp; omega) (.slice AJ x.jr.length cJ)) (by omega) (by simp only [size_set]; exact Nat.le_refl _)
end Go.Proofs.YtjpkpfmpjgeeiaaGreat
