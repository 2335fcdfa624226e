/- Chapter 2: copies of a column: slices.Clone of the program, the appends of the model. -/
import Derived.Test.YthmbpcnpmfiaoaaColC
import Derived.Test.YthmbpcnpmfiaoaaColE
import Derived.Test.YthmbpcnpmfiaoaaOwn
import Derived.Deep.DeepMust
import Derived.Deep.RegionHeld3
import Derived.Deep.AppendLies
import Derived.WalkSpells
import Derived.Lib.SliceRun
namespace Go.Proofs.Ythmbpcnpmfiaoaa
open Go.RowKit
set_option linter.unusedVariables false

theorem addrK (b off i : Nat) : (Addr.mk b off none).add i = ⟨b, off + i, none⟩ := by
  unfold Addr.add
  split
  · rename_i h; subst h; rfl
  · rfl
theorem il_news {w : World} {B : Nat} {a : Addr} {l : List Int} (h : IL w B (some a) l) : ∀ (j : Nat) (u : Value), (intV l)[j]? = some u → w.cell? (a.add j) = some u := by
  intro j u hu
  have hj : j < l.length := by have := (List.getElem?_eq_some_iff.1 hu).1; rwa [intV_len] at this
  rcases h with h | ⟨b, off, e, _, hc⟩
  · rw [h] at hj; simp at hj
  · injection e with e; subst e
    rw [addrK]
    have hx := List.getElem?_eq_getElem hj
    rw [intV_at hx] at hu
    rw [← hu]; exact hc j _ hx
theorem xl_news {w : World} {B : Nat} {a : Addr} {l : List Bx} (h : XL w B (some a) l) : ∀ (j : Nat) (u : Value), (boxV l)[j]? = some u → w.cell? (a.add j) = some u := by
  intro j u hu
  have hj : j < 4 * l.length := by have := (List.getElem?_eq_some_iff.1 hu).1; rwa [boxV_len] at this
  obtain ⟨q, r, rfl, hr⟩ : ∃ q r, j = q * 4 + r ∧ r < 4 := ⟨j / 4, j % 4, by omega, by omega⟩
  have hq : q < l.length := by omega
  have hx := List.getElem?_eq_getElem hq
  have h1 := boxV_at hx
  rcases h with h | ⟨b, off, e, _, hc⟩
  · rw [h] at hq; simp at hq
  · injection e with e; subst e
    have h2 := hc q _ hx
    rw [addrK]
    rcases r with _ | _ | _ | _ | r
    · rw [Nat.add_zero] at hu ⊢; rw [h1.1] at hu; rw [← hu]; exact h2.1
    · rw [h1.2.1] at hu; rw [← hu, ← Nat.add_assoc]; exact h2.2.1
    · rw [h1.2.2.1] at hu; rw [← hu, ← Nat.add_assoc]; exact h2.2.2.1
    · rw [h1.2.2.2] at hu; rw [← hu, ← Nat.add_assoc]; exact h2.2.2.2
    · omega
theorem il_none {w : World} {B : Nat} {l : List Int} (h : IL w B none l) : l = [] := by
  rcases h with h | ⟨b, off, e, _⟩
  · exact h
  · cases e
theorem xl_none {w : World} {B : Nat} {l : List Bx} (h : XL w B none l) : l = [] := by
  rcases h with h | ⟨b, off, e, _⟩
  · exact h
  · cases e
theorem int_one {l : List Int} : ∀ u ∈ intV l, u.oneCell' = true := by
  intro u hu
  obtain ⟨x, _, rfl⟩ := List.mem_map.1 hu
  rfl
theorem box_one {l : List Bx} : ∀ u ∈ boxV l, u.oneCell' = true := by
  intro u hu
  obtain ⟨x, _, hx⟩ := List.mem_flatMap.1 hu
  simp [boxC] at hx
  rcases hx with rfl | rfl | rfl | rfl <;> rfl

theorem cell_far3 {w : World} {g q : Nat} (h : q < g) (o i j k : Nat) (u v x : Value) : (((w.setCell ⟨g, i, none⟩ u).setCell ⟨g, j, none⟩ v).setCell ⟨g, k, none⟩ x).cell? ⟨q, o, none⟩ = w.cell? ⟨q, o, none⟩ := by
  rw [World.cell?_setCell_other _ _ _ _ (fun e => by injection e; omega), World.cell?_setCell_other _ _ _ _ (fun e => by injection e; omega), World.cell?_setCell_other _ _ _ _ (fun e => by injection e; omega)]

theorem keepA {w0 w : World} (q g : Nat) {a b c : Value} (o : Obj) (h : q < g) (hz : g ≤ w0.heap.size) (hS : (w.cell? ⟨q, 0, none⟩ = some a ∧ w.cell? ⟨q, 1, none⟩ = some b ∧ w.cell? ⟨q, 2, none⟩ = some c) ∧ Below g w0 w) :
    ((w.alloc o).cell? ⟨q, 0, none⟩ = some a ∧ (w.alloc o).cell? ⟨q, 1, none⟩ = some b ∧ (w.alloc o).cell? ⟨q, 2, none⟩ = some c) ∧ Below g w0 (w.alloc o) := by
  have hs := hS.2.size
  have k : ∀ i, (w.alloc o).cell? ⟨q, i, none⟩ = w.cell? ⟨q, i, none⟩ := fun i => bold (balloc w o) _ _ (by omega)
  exact ⟨⟨(k 0).trans hS.1.1, (k 1).trans hS.1.2.1, (k 2).trans hS.1.2.2⟩, hS.2.alloc (by omega) _⟩
theorem keepG {w0 w w' : World} (q g : Nat) {a b c : Value} {row : Option Nat} (h : q < g) (hz : g ≤ w0.heap.size) (hS : (w.cell? ⟨q, 0, none⟩ = some a ∧ w.cell? ⟨q, 1, none⟩ = some b ∧ w.cell? ⟨q, 2, none⟩ = some c) ∧ Below g w0 w) (hg : w.grownBy w' row) (hr : ∀ b, row = some b → g ≤ b) :
    (w'.cell? ⟨q, 0, none⟩ = some a ∧ w'.cell? ⟨q, 1, none⟩ = some b ∧ w'.cell? ⟨q, 2, none⟩ = some c) ∧ Below g w0 w' := by
  have hs := hS.2.size
  have hb : Below g w w' := ⟨hg.os, hg.tape, hg.output, hg.size, fun k hk => hg.block k (by omega) (fun e => by have := hr k e.symm; omega)⟩
  have k : ∀ i, w'.cell? ⟨q, i, none⟩ = w.cell? ⟨q, i, none⟩ := fun i => hb.cell (p := ⟨q, i, none⟩) h
  exact ⟨⟨(k 0).trans hS.1.1, (k 1).trans hS.1.2.1, (k 2).trans hS.1.2.2⟩, hS.2.trans hb⟩
theorem OR.alloc_ {w : World} {base : Nat} {e : TypeId} {A : Option Addr} {xs : List Value} (h : OR w base e A xs) (o : Obj) : OR (w.alloc o) base e A xs := h.below (balloc w o)
theorem OR.grown_ {w w' : World} {base : Nat} {e e' : TypeId} {A : Option Addr} {xs : List Value} {row : Option Nat} (h : OR w base e A xs) (hg : w.grownBy w' row) (hr : ∀ b, row = some b → ∃ cur, Has w b e' cur) (hne : e ≠ e') : OR w' base e A xs := by
  rcases h with h | ⟨g, cur, rfl, hb, hh, hc⟩
  · exact .inl h
  · refine .inr ⟨g, cur, rfl, hb, has_grown hh hg (fun eq => ?_), hc⟩
    obtain ⟨cur', h'⟩ := hr g eq.symm
    have := hh.symm.trans h'
    injection this with this; injection this with _ this _
    exact hne this
theorem keep3 {w0 w : World} {B g q i j k : Nat} {u v x a b c : Value} (h : q < g) (hS : (w.cell? ⟨q, 0, none⟩ = some a ∧ w.cell? ⟨q, 1, none⟩ = some b ∧ w.cell? ⟨q, 2, none⟩ = some c) ∧ Below g w0 w) :
    ((((w.setCell ⟨g, i, none⟩ u).setCell ⟨g, j, none⟩ v).setCell ⟨g, k, none⟩ x).cell? ⟨q, 0, none⟩ = some a ∧ (((w.setCell ⟨g, i, none⟩ u).setCell ⟨g, j, none⟩ v).setCell ⟨g, k, none⟩ x).cell? ⟨q, 1, none⟩ = some b ∧ (((w.setCell ⟨g, i, none⟩ u).setCell ⟨g, j, none⟩ v).setCell ⟨g, k, none⟩ x).cell? ⟨q, 2, none⟩ = some c) ∧ Below g w0 (((w.setCell ⟨g, i, none⟩ u).setCell ⟨g, j, none⟩ v).setCell ⟨g, k, none⟩ x) :=
  ⟨⟨(cell_far3 h _ _ _ _ _ _ _).trans hS.1.1, (cell_far3 h _ _ _ _ _ _ _).trans hS.1.2.1, (cell_far3 h _ _ _ _ _ _ _).trans hS.1.2.2⟩, ((hS.2.setCell (Nat.le_refl _) _).setCell (Nat.le_refl _) _).setCell (Nat.le_refl _) _⟩

theorem il_src {w : World} {B : Nat} {A : Option Addr} {l : List Int} (h : IL w B A l) : Src w A l.length 1 (intV l) :=
  ⟨by simp [intV_len], int_one, fun e => by subst e; rw [il_none h]; rfl, fun ad e => by subst e; exact il_news h⟩
theorem xl_src {w : World} {B : Nat} {A : Option Addr} {l : List Bx} (h : XL w B A l) : Src w A l.length 4 (boxV l) :=
  ⟨by rw [boxV_len]; omega, box_one, fun e => by subst e; rw [xl_none h]; rfl, fun ad e => by subst e; exact xl_news h⟩
theorem or_of {w : World} {base : Nat} {e : TypeId} {A : Option Addr} {xs : List Value} {size n c : Nat} (h : w.ownsRow base e size (.slice A n c) n xs) : OR w base e A xs := by
  obtain ⟨A', c', e1, h1⟩ := or_own h
  injection e1 with e1; subst e1; exact h1

theorem copy_fin {w w0 w2 : World} {A2 A3 : Option Addr} {F L : List Value} {e1 e2 : TypeId} (b0 : Below w.heap.size w w0) (hb : Below (w.heap.size + 1) w0 w2) (h2 : OR w2 (w.heap.size + 2) e1 A2 F) (h3 : OR w2 (w.heap.size + 2) e2 A3 L) (hz : w.heap.size + 2 ≤ w2.heap.size) (u v x : Value) :
    OR (((w2.setCell ⟨w.heap.size + 1, 0, none⟩ u).setCell ⟨w.heap.size + 1, 1, none⟩ v).setCell ⟨w.heap.size + 1, 2, none⟩ x) w.heap.size e1 A2 F ∧ OR (((w2.setCell ⟨w.heap.size + 1, 0, none⟩ u).setCell ⟨w.heap.size + 1, 1, none⟩ v).setCell ⟨w.heap.size + 1, 2, none⟩ x) w.heap.size e2 A3 L ∧ Below w.heap.size w (((w2.setCell ⟨w.heap.size + 1, 0, none⟩ u).setCell ⟨w.heap.size + 1, 1, none⟩ v).setCell ⟨w.heap.size + 1, 2, none⟩ x) :=
  ⟨(((h2.setlow (by show w.heap.size + 1 < _; omega) _).setlow (by show w.heap.size + 1 < _; omega) _).setlow (by show w.heap.size + 1 < _; omega) _).more (by omega),
   (((h3.setlow (by show w.heap.size + 1 < _; omega) _).setlow (by show w.heap.size + 1 < _; omega) _).setlow (by show w.heap.size + 1 < _; omega) _).more (by omega),
   (((b0.trans (hb.mono (by omega))).setCell (by simp) _).setCell (by simp) _).setCell (by simp) _⟩

end Go.Proofs.Ythmbpcnpmfiaoaa
