
/- Rows of Grant: what a slice of them reads as, and the laws' own helpers over them (gen_row.py). -/
import Derived.Test.YtjpkpfmpjgeeiaaGreatQ13
import Derived.Test.YtjpkpfmpjgeeiaaGreatQ02
import Derived.StillTailTactics
import Derived.Test.YtjpkpfmpjgeeiaaGreatQ12
namespace Go.Proofs.YtjpkpfmpjgeeiaaGreat
open Go.RowKit
set_option linter.unusedVariables false
set_option maxRecDepth 100000


/-- a slice of them reads as the list, below block B -/
def grL (w : World) (B : Nat) (A : Option Addr) (l : List Gr) : Prop :=
  l = [] ∨ ∃ b off, A = some ⟨b, off, none⟩ ∧ b < B ∧ ∀ k x, l[k]? = some x → w.cell? ⟨b, off + k * 7, none⟩ = some (.int .i64 x.frm) ∧ w.cell? ⟨b, off + k * 7 + 1, none⟩ = some (.int .i64 x.to) ∧ w.cell? ⟨b, off + k * 7 + 2, none⟩ = some (.int .i64 x.par) ∧ w.cell? ⟨b, off + k * 7 + 3, none⟩ = some (.int .i64 x.dep) ∧ w.cell? ⟨b, off + k * 7 + 4, none⟩ = some (.int .i64 x.sta) ∧ w.cell? ⟨b, off + k * 7 + 5, none⟩ = some (.int .i64 x.fin) ∧ w.cell? ⟨b, off + k * 7 + 6, none⟩ = some (.bool x.off)
theorem grL.below {w w' : World} {B : Nat} {A : Option Addr} {l : List Gr} (h : grL w B A l) (hb : Below B w w') : grL w' B A l := by
  rcases h with h | ⟨b, off, rfl, hlt, hc⟩
  · exact .inl h
  · refine .inr ⟨b, off, rfl, hlt, fun k x hx => ?_⟩
    have := hc k x hx
    exact ⟨(hb.cell (p := ⟨b, off + k * 7, none⟩) hlt).trans this.1, (hb.cell (p := ⟨b, off + k * 7 + 1, none⟩) hlt).trans this.2.1, (hb.cell (p := ⟨b, off + k * 7 + 2, none⟩) hlt).trans this.2.2.1, (hb.cell (p := ⟨b, off + k * 7 + 3, none⟩) hlt).trans this.2.2.2.1, (hb.cell (p := ⟨b, off + k * 7 + 4, none⟩) hlt).trans this.2.2.2.2.1, (hb.cell (p := ⟨b, off + k * 7 + 5, none⟩) hlt).trans this.2.2.2.2.2.1, (hb.cell (p := ⟨b, off + k * 7 + 6, none⟩) hlt).trans this.2.2.2.2.2.2⟩
theorem grL.at_ {w : World} {B : Nat} {A : Option Addr} {l : List Gr} (h : grL w B A l) {k : Nat} (hk : k < l.length) :
    ∃ b off x, A = some ⟨b, off, none⟩ ∧ b < B ∧ l[k]? = some x ∧ w.cell? ⟨b, off + k * 7, none⟩ = some (.int .i64 x.frm) ∧ w.cell? ⟨b, off + k * 7 + 1, none⟩ = some (.int .i64 x.to) ∧ w.cell? ⟨b, off + k * 7 + 2, none⟩ = some (.int .i64 x.par) ∧ w.cell? ⟨b, off + k * 7 + 3, none⟩ = some (.int .i64 x.dep) ∧ w.cell? ⟨b, off + k * 7 + 4, none⟩ = some (.int .i64 x.sta) ∧ w.cell? ⟨b, off + k * 7 + 5, none⟩ = some (.int .i64 x.fin) ∧ w.cell? ⟨b, off + k * 7 + 6, none⟩ = some (.bool x.off) := by
  rcases h with h | ⟨b, off, rfl, hlt, hc⟩
  · subst h; simp at hk
  · exact ⟨b, off, _, rfl, hlt, List.getElem?_eq_getElem hk, hc k _ (List.getElem?_eq_getElem hk)⟩
theorem grL.later {w w' : World} {B : Nat} {A : Option Addr} {l : List Gr} (h : grL w B A l) (hB : B ≤ w.heap.size) (hb : Below w.heap.size w w') : grL w' B A l := h.below (hb.mono hB)
theorem grL.more {w : World} {B B' : Nat} {A : Option Addr} {l : List Gr} (h : grL w B A l) (hB : B ≤ B') : grL w B' A l := by
  rcases h with h | ⟨b, off, rfl, hlt, hc⟩
  · exact .inl h
  · exact .inr ⟨b, off, rfl, by omega, hc⟩
def grC (x : Gr) : List Value := [.int .i64 x.frm, .int .i64 x.to, .int .i64 x.par, .int .i64 x.dep, .int .i64 x.sta, .int .i64 x.fin, .bool x.off]
def grV (l : List Gr) : List Value := l.flatMap grC
theorem grV_len (l : List Gr) : (grV l).length = 7 * l.length := by
  induction l with
  | nil => rfl
  | cons a r ih => simp [grV, grC] at ih ⊢; omega
theorem grV_at : ∀ {l : List Gr} {k : Nat} {x : Gr}, l[k]? = some x → (grV l)[k * 7]? = some (.int .i64 x.frm) ∧ (grV l)[k * 7 + 1]? = some (.int .i64 x.to) ∧ (grV l)[k * 7 + 2]? = some (.int .i64 x.par) ∧ (grV l)[k * 7 + 3]? = some (.int .i64 x.dep) ∧ (grV l)[k * 7 + 4]? = some (.int .i64 x.sta) ∧ (grV l)[k * 7 + 5]? = some (.int .i64 x.fin) ∧ (grV l)[k * 7 + 6]? = some (.bool x.off)
  | [], k, u, h => by simp at h
  | a :: r, 0, u, h => by
    simp at h; subst h
    exact ⟨rfl, rfl, rfl, rfl, rfl, rfl, rfl⟩
  | a :: r, k + 1, u, h => by
    have ih := grV_at (l := r) (k := k) (x := u) (by simpa using h)
    have e : grV (a :: r) = .int .i64 a.frm :: .int .i64 a.to :: .int .i64 a.par :: .int .i64 a.dep :: .int .i64 a.sta :: .int .i64 a.fin :: .bool a.off :: grV r := rfl
    rw [e, show (k + 1) * 7 = k * 7 + 1 + 1 + 1 + 1 + 1 + 1 + 1 by omega]
    exact ⟨by simpa using ih.1, by simpa using ih.2.1, by simpa using ih.2.2.1, by simpa using ih.2.2.2.1, by simpa using ih.2.2.2.2.1, by simpa using ih.2.2.2.2.2.1, by simpa using ih.2.2.2.2.2.2⟩
theorem grV_nil {l : List Gr} (h : grV l = []) : l = [] := by
  have := congrArg List.length h
  rw [grV_len] at this
  exact List.eq_nil_of_length_eq_zero (by simp only [List.length_nil] at this; omega)
theorem OR.gr {w : World} {base : Nat} {e : TypeId} {A : Option Addr} {l : List Gr} (h : OR w base e A (grV l)) : grL w w.heap.size A l := by
  rcases h with h | ⟨g, cur, rfl, hb, hh, hc⟩
  · exact .inl (grV_nil h)
  · refine .inr ⟨g, 0, rfl, has_lt hh, fun k x hx => ?_⟩
    have := grV_at hx
    rw [Nat.zero_add]
    exact ⟨has_cell hh _ (hc _ _ this.1), has_cell hh _ (hc _ _ this.2.1), has_cell hh _ (hc _ _ this.2.2.1), has_cell hh _ (hc _ _ this.2.2.2.1), has_cell hh _ (hc _ _ this.2.2.2.2.1), has_cell hh _ (hc _ _ this.2.2.2.2.2.1), has_cell hh _ (hc _ _ this.2.2.2.2.2.2)⟩
theorem OI.gr {w : World} {lo hi : Nat} {e : TypeId} {A : Option Addr} {l : List Gr} (h : OI w lo hi e A (grV l)) : grL w w.heap.size A l := h.or_.gr
theorem grV_of {l : List Gr} {cs : Array Value} (h : ∀ j x, j < l.length → l[j]? = some x → cs[j * 7]? = some (.int .i64 x.frm) ∧ cs[j * 7 + 1]? = some (.int .i64 x.to) ∧ cs[j * 7 + 2]? = some (.int .i64 x.par) ∧ cs[j * 7 + 3]? = some (.int .i64 x.dep) ∧ cs[j * 7 + 4]? = some (.int .i64 x.sta) ∧ cs[j * 7 + 5]? = some (.int .i64 x.fin) ∧ cs[j * 7 + 6]? = some (.bool x.off)) : ∀ (j : Nat) (u : Value), (grV l)[j]? = some u → cs[j]? = some u := by
  intro j u hu
  have hj : j < 7 * l.length := by have := (List.getElem?_eq_some_iff.1 hu).1; rwa [grV_len] at this
  obtain ⟨q, r, rfl, hr⟩ : ∃ q r, j = q * 7 + r ∧ r < 7 := ⟨j / 7, j % 7, by omega, by omega⟩
  have hq : q < l.length := by omega
  have hx := List.getElem?_eq_getElem hq
  have h1 := grV_at hx
  have h2 := h q _ hq hx
  rcases r with _ | _ | _ | _ | _ | _ | _ | r
  · rw [Nat.add_zero] at hu ⊢; rw [h1.1] at hu; rw [h2.1]; exact hu
  · rw [h1.2.1] at hu; rw [h2.2.1]; exact hu
  · rw [h1.2.2.1] at hu; rw [h2.2.2.1]; exact hu
  · rw [h1.2.2.2.1] at hu; rw [h2.2.2.2.1]; exact hu
  · rw [h1.2.2.2.2.1] at hu; rw [h2.2.2.2.2.1]; exact hu
  · rw [h1.2.2.2.2.2.1] at hu; rw [h2.2.2.2.2.2.1]; exact hu
  · rw [h1.2.2.2.2.2.2] at hu; rw [h2.2.2.2.2.2.2]; exact hu
  · omega
def seqgr (k : Int) (m : Nat) : List Gr := (List.range m).map fun (j : Nat) => ⟨k + 7 * (j : Int), k + 7 * (j : Int) + 1, k + 7 * (j : Int) + 1 + 1, k + 7 * (j : Int) + 1 + 1 + 1, k + 7 * (j : Int) + 1 + 1 + 1 + 1, k + 7 * (j : Int) + 1 + 1 + 1 + 1 + 1, (k + 7 * (j : Int) + 1 + 1 + 1 + 1 + 1 + 1) % 3 == 0⟩
theorem szGrant_any (w : World) (A : Option Addr) (n c : Nat) (left : Int) (hn : n ≤ maxLen) (h1 : 0 ≤ left) (h2 : left ≤ 1048576) :
    Calls Tryz.prog 15 #[.slice A n c, .int .i64 left] w fun e w' => e = .returned (.int .i64 (szI left n)) ∧ w' = w := by
  unfold maxLen at hn
  by_cases h : left < n
  · go_enter Tryz.func15, Tryz.ntmps15
    go_wp2
    go_ret
    exact ⟨ret_int (if_pos (by omega)).symm, rfl⟩
  · go_enter Tryz.func15, Tryz.ntmps15
    go_wp2
    go_ret
    exact ⟨ret_int (if_neg (by omega)).symm, rfl⟩
theorem grInfo : (Tryz.prog.info? 95).map (fun i => (i.zero, i.size, i.bytes)) = some (some (.agg #[.int .i64 0, .int .i64 0, .int .i64 0, .int .i64 0, .int .i64 0, .int .i64 0, .bool false]), 7, 56) := by kernel_rfl

theorem toGrant_any (x0 : Int) (x1 : Int) (x2 : Int) (x3 : Int) (x4 : Int) (x5 : Int) (x6 : Bool) (w : World) :
    Calls Tryz.prog 43 #[.agg #[.int .i64 x0, .int .i64 x1, .int .i64 x2, .int .i64 x3, .int .i64 x4, .int .i64 x5, .bool x6]] w fun e w' => e = .returned (.agg #[.int .i64 x0, .int .i64 x1, .int .i64 x2, .int .i64 x3, .int .i64 x4, .int .i64 x5, .bool x6]) ∧ Below w.heap.size w w' := by
  go_enter Tryz.func43, Tryz.ntmps43
  go_wp2
  exact bodyPost_ret (v := .agg #[.int .i64 x0, .int .i64 x1, .int .i64 x2, .int .i64 x3, .int .i64 x4, .int .i64 x5, .bool x6]) (by simp [results, Tryz.results43, go_sem]) rfl ⟨rfl, (((Below.refl _ _).alloc (Nat.le_refl _) _).alloc (by simp) _).alloc (by simp; omega) _⟩
theorem eqGrant_any (x0 : Int) (x1 : Int) (x2 : Int) (x3 : Int) (x4 : Int) (x5 : Int) (x6 : Bool) (w : World) :
    Calls Tryz.prog 52 #[.agg #[.int .i64 x0, .int .i64 x1, .int .i64 x2, .int .i64 x3, .int .i64 x4, .int .i64 x5, .bool x6], .agg #[.int .i64 x0, .int .i64 x1, .int .i64 x2, .int .i64 x3, .int .i64 x4, .int .i64 x5, .bool x6]] w fun e w' => e = .returned (.bool true) ∧ Below w.heap.size w w' := by
  have hb : Below w.heap.size w ((w.alloc (.cells #[.int .i64 x0, .int .i64 x1, .int .i64 x2, .int .i64 x3, .int .i64 x4, .int .i64 x5, .bool x6] 95)).alloc (.cells #[.int .i64 x0, .int .i64 x1, .int .i64 x2, .int .i64 x3, .int .i64 x4, .int .i64 x5, .bool x6] 95)) := ((Below.refl _ _).alloc (Nat.le_refl _) _).alloc (by simp) _
  have e0 : (x0 != x0) = false := by simp
  have e1 : (x1 != x1) = false := by simp
  have e2 : (x2 != x2) = false := by simp
  have e3 : (x3 != x3) = false := by simp
  have e4 : (x4 != x4) = false := by simp
  have e5 : (x5 != x5) = false := by simp
  have e6 : (x6 != x6) = false := by simp
  go_enter Tryz.func52, Tryz.ntmps52
  go_wp2
  go_ret
  exact ⟨rfl, hb⟩

/-- block g holds the first k of the list, and has room for all of them -/
structure Copiedgr (w : World) (g : Nat) (cs : Array Value) (l : List Gr) (k : Nat) : Prop where
  heap : Has w g 95 cs
  size : l.length * 7 ≤ cs.size
  got : ∀ j x, j < k → l[j]? = some x → cs[j * 7]? = some (.int .i64 x.frm) ∧ cs[j * 7 + 1]? = some (.int .i64 x.to) ∧ cs[j * 7 + 2]? = some (.int .i64 x.par) ∧ cs[j * 7 + 3]? = some (.int .i64 x.dep) ∧ cs[j * 7 + 4]? = some (.int .i64 x.sta) ∧ cs[j * 7 + 5]? = some (.int .i64 x.fin) ∧ cs[j * 7 + 6]? = some (.bool x.off)
theorem Copiedgr.below {w w' : World} {g : Nat} {cs : Array Value} {l : List Gr} {k : Nat} (h : Copiedgr w g cs l k) (hb : Below w.heap.size w w') : Copiedgr w' g cs l k := ⟨has_call h.heap hb, h.size, h.got⟩
theorem Copiedgr.cellAt {w : World} {g : Nat} {cs : Array Value} {l : List Gr} {k j : Nat} (h : Copiedgr w g cs l k) (hj : j < l.length * 7) : ∃ u, w.cell? ⟨g, j, none⟩ = some u :=
  ⟨cs[j]'(Nat.lt_of_lt_of_le hj h.size), has_cell h.heap j (Array.getElem?_eq_getElem _)⟩
theorem Copiedgr.step {w : World} {g : Nat} {cs : Array Value} {l : List Gr} {k : Nat} (h : Copiedgr w g cs l k) {x : Gr} (hx : l[k]? = some x) :
    Copiedgr (((((((w.setCell ⟨g, k * 7, none⟩ (.int .i64 x.frm)).setCell ⟨g, k * 7 + 1, none⟩ (.int .i64 x.to)).setCell ⟨g, k * 7 + 2, none⟩ (.int .i64 x.par)).setCell ⟨g, k * 7 + 3, none⟩ (.int .i64 x.dep)).setCell ⟨g, k * 7 + 4, none⟩ (.int .i64 x.sta)).setCell ⟨g, k * 7 + 5, none⟩ (.int .i64 x.fin)).setCell ⟨g, k * 7 + 6, none⟩ (.bool x.off)) g (((((((cs.setIfInBounds (k * 7) (.int .i64 x.frm)).setIfInBounds (k * 7 + 1) (.int .i64 x.to)).setIfInBounds (k * 7 + 2) (.int .i64 x.par)).setIfInBounds (k * 7 + 3) (.int .i64 x.dep)).setIfInBounds (k * 7 + 4) (.int .i64 x.sta)).setIfInBounds (k * 7 + 5) (.int .i64 x.fin)).setIfInBounds (k * 7 + 6) (.bool x.off)) l (k + 1) := by
  have hlt : k < l.length := (List.getElem?_eq_some_iff.1 hx).1
  have hsz := h.size
  refine ⟨(has_set (has_set (has_set (has_set (has_set (has_set (has_set h.heap _ _) _ _) _ _) _ _) _ _) _ _) _ _), by simpa using h.size, fun j y hj hy => ?_⟩
  by_cases hjk : j = k
  · subst hjk
    obtain rfl : x = y := by rw [hx] at hy; injection hy
    simp only [Array.getElem?_setIfInBounds, Array.size_setIfInBounds]
    refine ⟨?_, ?_, ?_, ?_, ?_, ?_, ?_⟩
    · rw [if_neg (by omega), if_neg (by omega), if_neg (by omega), if_neg (by omega), if_neg (by omega), if_neg (by omega), if_pos trivial, if_pos (by omega)]
    · rw [if_neg (by omega), if_neg (by omega), if_neg (by omega), if_neg (by omega), if_neg (by omega), if_pos trivial, if_pos (by omega)]
    · rw [if_neg (by omega), if_neg (by omega), if_neg (by omega), if_neg (by omega), if_pos trivial, if_pos (by omega)]
    · rw [if_neg (by omega), if_neg (by omega), if_neg (by omega), if_pos trivial, if_pos (by omega)]
    · rw [if_neg (by omega), if_neg (by omega), if_pos trivial, if_pos (by omega)]
    · rw [if_neg (by omega), if_pos trivial, if_pos (by omega)]
    · rw [if_pos trivial, if_pos (by omega)]
  · have := h.got j y (by omega) hy
    simp only [Array.getElem?_setIfInBounds]
    refine ⟨?_, ?_, ?_, ?_, ?_, ?_, ?_⟩
    all_goals rw [if_neg (by omega), if_neg (by omega), if_neg (by omega), if_neg (by omega), if_neg (by omega), if_neg (by omega), if_neg (by omega)]
    · exact this.1
    · exact this.2.1
    · exact this.2.2.1
    · exact this.2.2.2.1
    · exact this.2.2.2.2.1
    · exact this.2.2.2.2.2.1
    · exact this.2.2.2.2.2.2
theorem Copiedgr.put {w : World} {g : Nat} {cs : Array Value} {l : List Gr} {k : Nat} (h : Copiedgr w g cs l l.length) (hk : k < l.length) (x : Gr) :
    Copiedgr (((((((w.setCell ⟨g, k * 7, none⟩ (.int .i64 x.frm)).setCell ⟨g, k * 7 + 1, none⟩ (.int .i64 x.to)).setCell ⟨g, k * 7 + 2, none⟩ (.int .i64 x.par)).setCell ⟨g, k * 7 + 3, none⟩ (.int .i64 x.dep)).setCell ⟨g, k * 7 + 4, none⟩ (.int .i64 x.sta)).setCell ⟨g, k * 7 + 5, none⟩ (.int .i64 x.fin)).setCell ⟨g, k * 7 + 6, none⟩ (.bool x.off)) g (((((((cs.setIfInBounds (k * 7) (.int .i64 x.frm)).setIfInBounds (k * 7 + 1) (.int .i64 x.to)).setIfInBounds (k * 7 + 2) (.int .i64 x.par)).setIfInBounds (k * 7 + 3) (.int .i64 x.dep)).setIfInBounds (k * 7 + 4) (.int .i64 x.sta)).setIfInBounds (k * 7 + 5) (.int .i64 x.fin)).setIfInBounds (k * 7 + 6) (.bool x.off)) (l.set k x) (l.set k x).length := by
  have hsz := h.size
  refine ⟨(has_set (has_set (has_set (has_set (has_set (has_set (has_set h.heap _ _) _ _) _ _) _ _) _ _) _ _) _ _), by simpa using h.size, fun j y hj hy => ?_⟩
  rw [List.length_set] at hj
  by_cases hjk : j = k
  · subst hjk
    rw [List.getElem?_set_self hk] at hy
    obtain rfl : x = y := by injection hy
    simp only [Array.getElem?_setIfInBounds, Array.size_setIfInBounds]
    refine ⟨?_, ?_, ?_, ?_, ?_, ?_, ?_⟩
    · rw [if_neg (by omega), if_neg (by omega), if_neg (by omega), if_neg (by omega), if_neg (by omega), if_neg (by omega), if_pos trivial, if_pos (by omega)]
    · rw [if_neg (by omega), if_neg (by omega), if_neg (by omega), if_neg (by omega), if_neg (by omega), if_pos trivial, if_pos (by omega)]
    · rw [if_neg (by omega), if_neg (by omega), if_neg (by omega), if_neg (by omega), if_pos trivial, if_pos (by omega)]
    · rw [if_neg (by omega), if_neg (by omega), if_neg (by omega), if_pos trivial, if_pos (by omega)]
    · rw [if_neg (by omega), if_neg (by omega), if_pos trivial, if_pos (by omega)]
    · rw [if_neg (by omega), if_pos trivial, if_pos (by omega)]
    · rw [if_pos trivial, if_pos (by omega)]
  · rw [List.getElem?_set_ne (fun e => hjk e.symm)] at hy
    have := h.got j y hj hy
    simp only [Array.getElem?_setIfInBounds]
    refine ⟨?_, ?_, ?_, ?_, ?_, ?_, ?_⟩
    all_goals rw [if_neg (by omega), if_neg (by omega), if_neg (by omega), if_neg (by omega), if_neg (by omega), if_neg (by omega), if_neg (by omega)]
    · exact this.1
    · exact this.2.1
    · exact this.2.2.1
    · exact this.2.2.2.1
    · exact this.2.2.2.2.1
    · exact this.2.2.2.2.2.1
    · exact this.2.2.2.2.2.2
theorem Copiedgr.row {w : World} {g base : Nat} {cs : Array Value} {l : List Gr} (h : Copiedgr w g cs l l.length) (hb : base ≤ g) : OR w base 95 (some ⟨g, 0, none⟩) (grV l) :=
  .inr ⟨g, cs, rfl, hb, h.heap, grV_of h.got⟩

theorem makegr_run (m : Nat) (hm : m ≤ 1048576) : ∀ W : World, (Instr.makeSlice 35 (.int .i64 (m : Int)) (.int .i64 (m : Int))).run Tryz.prog W = .ok (.slice (some ⟨W.heap.size, 0, none⟩) m m) (W.alloc (.cells (madeCells #[.int .i64 0, .int .i64 0, .int .i64 0, .int .i64 0, .int .i64 0, .int .i64 0, .bool false] (m * 7)) 95)) := by
  intro W
  obtain ⟨i, hi, hz0, hz1, hz2⟩ := info_parts grInfo
  have := run_make (P := Tryz.prog) W 35 95 i _ Tryz.underlying35 hi hz0 .i64 .i64 (m : Int) (m : Int) (by omega) (by omega) (by rw [hz2]; omega) (by omega)
  simpa [hz1, Value.cells] using this

set_option maxRecDepth 100000 in
set_option maxHeartbeats 2000000 in
theorem toGrantS_any (w : World) (B : Nat) (A : Option Addr) (c : Nat) (l : List Gr) (hl : l.length ≤ 1048576) (hB : B ≤ w.heap.size) (hS : grL w B A l) :
    Calls Tryz.prog 21 #[.slice A l.length c] w fun e w' => ∃ A' c', e = .returned (.slice A' l.length c') ∧ OR w' w.heap.size 95 A' (grV l) ∧ Below w.heap.size w w' := by
  have hmk := makegr_run l.length hl
  go_enter Tryz.func21, Tryz.ntmps21
  go_wp2
  go_loopw [4] (fun i wr => ∃ (k : Nat) (cs : Array Value), k ≤ l.length ∧ i = .int .i64 k ∧ Copiedgr wr w.heap.size cs l k ∧ Below w.heap.size w wr) (fun i _ => l.length - (intOf i).toNat)
  case atStart => exact ⟨0, _, Nat.zero_le _, rfl, ⟨has_new _ _ _, by simp [size_madeCells], fun j x hj => absurd hj (by omega)⟩, balloc _ _⟩
  case round =>
    obtain ⟨k, cs, hk, rfl, hcp, hb⟩ := hrel
    have HC := Lib.hid hcp; clear hcp
    clear hmk
    have hsz := hb.size
    by_cases hlt : k < l.length
    · obtain ⟨b, off, ⟨x0, x1, x2, x3, x4, x5, x6⟩, rfl, hbB, hx, hc0, hc1, hc2, hc3, hc4, hc5, hc6⟩ := (hS.below (hb.mono hB)).at_ hlt
      have Hx := Lib.hid hx; clear hx
      have HS := Lib.hid hS; clear hS
      dsimp only at hc0 hc1 hc2 hc3 hc4 hc5 hc6
      go_wp2_with fail
      refine (toGrant_any _ _ _ _ _ _ _ _).mono ?_
      rintro e w1 ⟨rfl, hb1⟩
      have hC1 := HC.out.below hb1
      obtain ⟨u0, hu0⟩ := hC1.cellAt (j := k * 7) (by omega)
      obtain ⟨u1, hu1⟩ := hC1.cellAt (j := k * 7 + 1) (by omega)
      obtain ⟨u2, hu2⟩ := hC1.cellAt (j := k * 7 + 2) (by omega)
      obtain ⟨u3, hu3⟩ := hC1.cellAt (j := k * 7 + 3) (by omega)
      obtain ⟨u4, hu4⟩ := hC1.cellAt (j := k * 7 + 4) (by omega)
      obtain ⟨u5, hu5⟩ := hC1.cellAt (j := k * 7 + 5) (by omega)
      obtain ⟨u6, hu6⟩ := hC1.cellAt (j := k * 7 + 6) (by omega)
      have hf0 := has_free hC1.heap (k * 7)
      have hf1 := has_free hC1.heap (k * 7 + 1)
      have hf2 := has_free hC1.heap (k * 7 + 2)
      have hf3 := has_free hC1.heap (k * 7 + 3)
      have hf4 := has_free hC1.heap (k * 7 + 4)
      have hf5 := has_free hC1.heap (k * 7 + 5)
      have hf6 := has_free hC1.heap (k * 7 + 6)
      have hst := hC1.step Hx.out
      have HST := Lib.hid hst; clear hst hC1
      go_wp2
      go_roundw
      case rel => exact ⟨k + 1, _, by omega, by go_num, HST.out, ((((((((hb.trans (hb1.mono hsz)).setCell (Nat.le_refl _) _).setCell (Nat.le_refl _) _).setCell (Nat.le_refl _) _).setCell (Nat.le_refl _) _).setCell (Nat.le_refl _) _).setCell (Nat.le_refl _) _).setCell (Nat.le_refl _) _)⟩
      case measure => simp [intOf]; omega
    · go_wp2
      go_ret
      have hkl : k = l.length := by omega
      subst hkl
      exact ⟨_, _, rfl, HC.out.row (Nat.le_refl _), hb⟩

set_option maxRecDepth 100000 in
set_option maxHeartbeats 2000000 in
theorem eqGrantS_any (w : World) (B B' : Nat) (A A' : Option Addr) (c c' : Nat) (l : List Gr) (hl : l.length ≤ maxLen) (hB : B ≤ w.heap.size) (hB' : B' ≤ w.heap.size) (hS : grL w B A l) (hS' : grL w B' A' l) :
    Calls Tryz.prog 27 #[.slice A l.length c, .slice A' l.length c'] w fun e w' => e = .returned (.bool true) ∧ Below w.heap.size w w' := by
  unfold maxLen at hl
  have e0 : ((l.length : Int) != (l.length : Int)) = false := by simp
  go_enter Tryz.func27, Tryz.ntmps27
  go_wp2
  clear e0
  go_loopw [5] (fun i wr => ∃ k : Nat, k ≤ l.length ∧ i = .int .i64 k ∧ Below w.heap.size w wr) (fun i _ => l.length - (intOf i).toNat)
  case atStart => exact ⟨0, Nat.zero_le _, rfl, Below.refl _ _⟩
  case round =>
    obtain ⟨k, hk, rfl, hb⟩ := hrel
    by_cases hlt : k < l.length
    · have hsz := hb.size
      obtain ⟨b, off, x, rfl, hbB, hx, hc0, hc1, hc2, hc3, hc4, hc5, hc6⟩ := (hS.below (hb.mono hB)).at_ hlt
      obtain ⟨b', off', y, rfl, hbB', hy, hd0, hd1, hd2, hd3, hd4, hd5, hd6⟩ := (hS'.below (hb.mono hB')).at_ hlt
      obtain rfl : x = y := by rw [hx] at hy; injection hy
      obtain ⟨x0, x1, x2, x3, x4, x5, x6⟩ := x
      dsimp only at hc0 hc1 hc2 hc3 hc4 hc5 hc6 hd0 hd1 hd2 hd3 hd4 hd5 hd6
      clear hx hy
      have HS := Lib.hid hS; clear hS
      have HS' := Lib.hid hS'; clear hS'
      have hbw : b < wr.heap.size := by omega
      have hbw' : b' < wr.heap.size := by omega
      go_wp2
      go_still_tail 8, (by kernel_rfl)
      change wpList _ _ _ _ _ wr.drew
      go_wp2_with (go_at_call 52; refine (eqGrant_any _ _ _ _ _ _ _ _).mono ?_; rintro e w1 ⟨rfl, hb1⟩)
      go_roundw
      case rel => exact ⟨k + 1, by omega, by go_num, (hb.drew).trans (hb1.mono hsz)⟩
      case measure => simp [intOf]; omega
    · go_wp2
      go_ret
      exact ⟨rfl, hb⟩

end Go.Proofs.YtjpkpfmpjgeeiaaGreat
namespace Go.Proofs.YtjpkpfmpjgeeiaaGreat
open Go.RowKit
set_option linter.unusedVariables false
set_option maxRecDepth 100000

def cntB (o c : List (Int × Int)) (a : Int) : Nat → Int
  | 0 => 0
  | k + 1 => cntB o c a k + (if openB o c (a + k) = true then 1 else 0)
def hoursB (o c : List (Int × Int)) (a b : Int) : Int := if weekB o c = true ∧ timeB a = true ∧ timeB b = true ∧ a ≤ b then cntB o c a (b - a).toNat else 0
def aftB (o c : List (Int × Int)) : Nat → Int → Int → Option Int
  | 0, t, left => if left = 0 then some t else none
  | f + 1, t, left => if left = 0 then some t else aftB o c f (t + 1) (if openB o c t = true then left - 1 else left)
def afterB (o c : List (Int × Int)) (a m : Int) : Option Int := if weekB o c = true ∧ timeB a = true ∧ 0 ≤ m then aftB o c (20000 - a).toNat a m else none

def befB (o c : List (Int × Int)) : Nat → Int → Int → Int
  | 0, t, _ => t
  | f + 1, t, left => if openB o c t = true then (if left = 0 then t else befB o c f (t + 1) (left - 1)) else befB o c f (t + 1) left
def beforeB (o c : List (Int × Int)) (a m : Int) : Option Int := if weekB o c = true ∧ timeB a = true ∧ 0 ≤ m then some (befB o c (20000 - a).toNat a m) else none
def pairV : Option Int → Value
  | some t => .tuple #[.int .i64 t, .bool true]
  | none => .tuple #[.int .i64 0, .bool false]
end Go.Proofs.YtjpkpfmpjgeeiaaGreat
