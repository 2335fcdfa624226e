
/- What an argument's reading gives: a column reads as its height, its fixed walls and its boxes. -/
import Derived.Test.YtjpkpfmpjgeeiaaGreatQ01
import Derived.Deep.Slices
import Derived.Deep.Fields
import Derived.ProofKit
import Derived.Lib.SmallJoins
import Derived.OpenShut
import Derived.Test.YtjpkpfmpjgeeiaaGreatQ05
import Derived.Test.YtjpkpfmpjgeeiaaGreatQ14
namespace Go.Proofs.YtjpkpfmpjgeeiaaGreat
open Go.RowKit Go.ChangeShapes Go.WideShapes Go.Deep Go.Joins
set_option linter.unusedVariables false

theorem list_ofC {α : Type} (p : Nat → α → Prop) : ∀ n, (∀ i, i < n → ∃ x, p i x) → ∃ l : List α, l.length = n ∧ ∀ i x, l[i]? = some x → p i x
  | 0, _ => ⟨[], rfl, fun i x h => by simp at h⟩
  | n + 1, h => by
    obtain ⟨l, hl, hp⟩ := list_ofC p n (fun i hi => h i (by omega))
    obtain ⟨x, hx⟩ := h n (by omega)
    refine ⟨l ++ [x], by simp [hl], fun i y hy => ?_⟩
    rcases Nat.lt_or_ge i l.length with hi | hi
    · rw [List.getElem?_append_left hi] at hy; exact hp i y hy
    · rw [List.getElem?_append_right hi] at hy
      have h0 : i - l.length = 0 := by
        rcases Nat.eq_zero_or_pos (i - l.length) with h | h
        · exact h
        · rw [List.getElem?_eq_none (by simp; omega)] at hy; cases hy
      rw [h0] at hy
      have : i = n := by omega
      subst this
      have : x = y := by simpa using hy
      exact this ▸ hx
section
variable {H : Type} {enc : TypeId × Value → H} {P : Program} {w : World} {base : Nat} {spare : Nat → Bool} {held : Bool}
/-- one field of a struct's cells, each field being one cell -/
theorem field_atC {e : TypeId} {fs : Array Field} {n : Nat} {cs : List Value} {x : DataW H × List MemPlace} (he : P.underlying e = some (.struct fs)) (hone : oneCellFields P fs = true) (hC : P.cellsOf e = fs.size)
    (h : DataW.trod enc P w base spare held n e cs = some x) (j : Nat) (f : Field) (hj : fs[j]? = some f) :
    ∃ v y n', cs[j]? = some v ∧ DataW.trod enc P w base spare held n' f.type [v] = some y := by
  obtain ⟨ys, n', _, _, hlen, hyl, hf⟩ := DataW.trod_struct he h
  obtain ⟨ho, hk⟩ := hone_of hone j f hj
  have hjl : j < fs.size := (Array.getElem?_eq_some_iff.1 hj).1
  have h1 := hf j f hj
  rw [ho, hk] at h1
  have hys : ys[j]? = some (ys[j]'(by omega)) := List.getElem?_eq_getElem (by omega)
  rw [hys] at h1
  have hc : j < cs.length := by omega
  have h2 : List.take 1 (List.drop j cs) = [cs[j]] := by rw [List.drop_eq_getElem_cons hc]; rfl
  rw [h2] at h1
  exact ⟨cs[j], _, n', List.getElem?_eq_getElem hc, h1⟩
theorem cell_ltC {a : Addr} {v : Value} (h : w.cell? a = some v) : a.block < w.heap.size := by
  rcases Nat.lt_or_ge a.block w.heap.size with hlt | hge
  · exact hlt
  · unfold World.cell? at h
    rw [Array.getElem?_eq_none hge] at h
    simp at h
theorem add_offC (b off i : Nat) : (Addr.mk b off none).add i = ⟨b, off + i, none⟩ := by
  unfold Addr.add
  split
  · rename_i h; subst h; rfl
  · rfl
theorem add_blockC (a : Addr) (i : Nat) : (a.add i).block = a.block := by unfold Addr.add; split <;> rfl

theorem open_intsC {t e : TypeId} {fuel : Nat} {cs : List Value} {x : DataW H × List MemPlace} (ht : P.underlying t = some (.slice e)) (he : P.underlying e = some (.int .i64)) (hC : P.cellsOf e = 1) (h : DataW.trod enc P w base spare held fuel t cs = some x) :
    ∃ (A : Option Addr) (c : Nat) (l : List Int), cs = [.slice A l.length c] ∧ l.length ≤ maxLen ∧ IL w w.heap.size A l := by
  rcases open_ints ht he hC h with ⟨hcs, _⟩ | ⟨a, len, cap, zs, hcs, _, hl, hm, hz, _, hcell, hwz⟩
  · exact ⟨none, 0, [], hcs, Nat.zero_le _, .inl rfl⟩
  · have hlz : len ≤ zs.length := by rw [hz]; split <;> omega
    refine ⟨some a, cap, zs.take len, by rw [hcs, List.length_take, Nat.min_eq_left hlz], by rw [List.length_take, Nat.min_eq_left hlz]; omega, ?_⟩
    rcases Nat.eq_zero_or_pos len with h0 | h0
    · exact .inl (by rw [h0]; rfl)
    · have hc0 := hcell 0 (by omega)
      have hb : a.block < w.heap.size := by have := cell_ltC hc0; rwa [add_blockC] at this
      have hsp : a.spot = none := by simpa [Addr.add] using World.cell?_spot hc0
      obtain ⟨b, off, sp⟩ := a
      simp only at hsp hb
      subst hsp
      refine .inr ⟨b, off, rfl, hb, fun k x hx => ?_⟩
      have hk : k < len := by have := (List.getElem?_eq_some_iff.1 hx).1; rw [List.length_take] at this; omega
      have hk' := hcell k (by omega)
      rw [add_offC] at hk'
      rw [hk', List.getD_eq_getElem?_getD]
      rw [List.getElem?_take, if_pos hk] at hx
      rw [hx]; rfl
theorem open_boxesC {t e : TypeId} {f0 f1 f2 f3 : Field} {fuel : Nat} {cs : List Value} {x : DataW H × List MemPlace} (ht : P.underlying t = some (.slice e)) (he : P.underlying e = some (.struct #[f0, f1, f2, f3])) (hone : oneCellFields P #[f0, f1, f2, f3] = true) (hC : P.cellsOf e = 4)
    (h0 : P.underlying f0.type = some (.int .i64)) (h1 : P.underlying f1.type = some (.int .i64)) (h2 : P.underlying f2.type = some (.int .i64)) (h3 : P.underlying f3.type = some .bool) (h : DataW.trod enc P w base spare held fuel t cs = some x) :
    ∃ (A : Option Addr) (c : Nat) (l : List Bx), cs = [.slice A l.length c] ∧ l.length ≤ maxLen ∧ XL w w.heap.size A l := by
  rcases open_slice ht h with ⟨rfl, _⟩ | ⟨a, len, cap, m, n, D, Pl, rfl, hb, hl, hm, hmm, _, hx⟩
  · exact ⟨none, 0, [], rfl, Nat.zero_le _, .inl rfl⟩
  · have hlm : len ≤ m := by rw [hmm]; split <;> omega
    have hel : ∀ i, i < len → ∃ y : Bx, w.cell? (a.add (i * 4)) = some (.int .i64 y.low) ∧ w.cell? (a.add (i * 4 + 1)) = some (.int .i64 y.size) ∧ w.cell? (a.add (i * 4 + 2)) = some (.int .i64 y.par) ∧ w.cell? (a.add (i * 4 + 3)) = some (.bool y.jam) := by
      intro i hi
      obtain ⟨cs', hcs, htr⟩ := hx i (by omega)
      rw [hC] at hcs
      obtain ⟨_, hcl, hat⟩ := World.cells?_some hcs
      obtain ⟨v0, y0, n0, hv0, ht0⟩ := field_atC he hone hC htr 0 f0 rfl
      obtain ⟨v1, y1, n1, hv1, ht1⟩ := field_atC he hone hC htr 1 f1 rfl
      obtain ⟨v2, y2, n2, hv2, ht2⟩ := field_atC he hone hC htr 2 f2 rfl
      obtain ⟨v3, y3, n3, hv3, ht3⟩ := field_atC he hone hC htr 3 f3 rfl
      obtain ⟨x0, hx0, _⟩ := DataW.trod_int h0 ht0
      obtain ⟨x1, hx1, _⟩ := DataW.trod_int h1 ht1
      obtain ⟨x2, hx2, _⟩ := DataW.trod_int h2 ht2
      obtain ⟨x3, hx3, _⟩ := DataW.trod_bool h3 ht3
      have e0 : v0 = .int .i64 x0 := by injection hx0
      have e1 : v1 = .int .i64 x1 := by injection hx1
      have e2 : v2 = .int .i64 x2 := by injection hx2
      have e3 : v3 = .bool x3 := by injection hx3
      have a0 := hat 0 (by omega)
      have a1 := hat 1 (by omega)
      have a2 := hat 2 (by omega)
      have a3 := hat 3 (by omega)
      rw [Addr.add_add] at a0 a1 a2 a3
      rw [Nat.add_zero] at a0
      exact ⟨⟨x0, x1, x2, x3⟩, by rw [a0, hv0, e0], by rw [a1, hv1, e1], by rw [a2, hv2, e2], by rw [a3, hv3, e3]⟩
    obtain ⟨l, hll, hp⟩ := list_ofC _ len hel
    refine ⟨some a, cap, l, by rw [hll], by omega, ?_⟩
    rcases l with _ | ⟨y, l'⟩
    · exact .inl rfl
    · have hfirst := (hp 0 y rfl).1
      have hblk : a.block < w.heap.size := by have := cell_ltC hfirst; rwa [add_blockC] at this
      have hsp : a.spot = none := by simpa [Addr.add] using World.cell?_spot hfirst
      obtain ⟨b, off, sp⟩ := a
      simp only at hsp
      subst hsp
      refine .inr ⟨b, off, rfl, hblk, fun k x hk => ?_⟩
      have := hp k x hk
      rw [add_offC, add_offC, add_offC, add_offC] at this
      exact this
end
end Go.Proofs.YtjpkpfmpjgeeiaaGreat
namespace Go.Proofs.YtjpkpfmpjgeeiaaGreat
open Go.RowKit Go.ChangeShapes Go.WideShapes Go.Deep Go.Joins
set_option linter.unusedVariables false
section
variable {H : Type} {enc : TypeId × Value → H} {P : Program} {w : World} {base : Nat} {spare : Nat → Bool} {held : Bool}
theorem open_bank {t tc : TypeId} {g0 g1 g2 : Field} {ti tb ei e : TypeId} {f0 f1 f2 f3 : Field} {fuel : Nat} {cs : List Value} {x : DataW H × List MemPlace} (htt : P.underlying t = some (.slice tc)) (hs : P.underlying tc = some (.struct #[g0, g1, g2])) (honew : oneCellFields P #[g0, g1, g2] = true) (hCw : P.cellsOf tc = 3)
    (hg0 : P.underlying g0.type = some (.int .i64)) (hg1 : g1.type = ti) (hg2 : g2.type = tb) (hti : P.underlying ti = some (.slice ei)) (hei : P.underlying ei = some (.int .i64)) (hCi : P.cellsOf ei = 1)
    (ht : P.underlying tb = some (.slice e)) (he : P.underlying e = some (.struct #[f0, f1, f2, f3])) (hone : oneCellFields P #[f0, f1, f2, f3] = true) (hC : P.cellsOf e = 4)
    (h0 : P.underlying f0.type = some (.int .i64)) (h1 : P.underlying f1.type = some (.int .i64)) (h2 : P.underlying f2.type = some (.int .i64)) (h3 : P.underlying f3.type = some .bool) (h : DataW.trod enc P w base spare held fuel t cs = some x) :
    ∃ (A : Option Addr) (c : Nat) (l : List Cl), cs = [.slice A l.length c] ∧ l.length ≤ maxLen ∧ KL w w.heap.size A l ∧ ∀ y ∈ l, CV w w.heap.size y := by
  rcases open_slice htt h with ⟨rfl, _⟩ | ⟨a, len, cap, m, n, D, Pl, rfl, hb, hl, hm, hmm, _, hx⟩
  · exact ⟨none, 0, [], rfl, Nat.zero_le _, .inl rfl, fun y hy => by cases hy⟩
  · have hlm : len ≤ m := by rw [hmm]; split <;> omega
    have hel : ∀ i, i < len → ∃ y : Cl, (w.cell? (a.add (i * 3)) = some (.int .i64 y.z) ∧ w.cell? (a.add (i * 3 + 1)) = some (.slice y.AF y.F.length y.cF) ∧ w.cell? (a.add (i * 3 + 2)) = some (.slice y.AB y.L.length y.cB)) ∧ CV w w.heap.size y := by
      intro i hi
      obtain ⟨cs', hcs, htr⟩ := hx i (by omega)
      rw [hCw] at hcs
      obtain ⟨_, hcl, hat⟩ := World.cells?_some hcs
      obtain ⟨v0, y0, n0, hv0, ht0⟩ := field_atC hs honew hCw htr 0 g0 rfl
      obtain ⟨v1, y1, n1, hv1, ht1⟩ := field_atC hs honew hCw htr 1 g1 rfl
      obtain ⟨v2, y2, n2, hv2, ht2⟩ := field_atC hs honew hCw htr 2 g2 rfl
      rw [hg1] at ht1
      rw [hg2] at ht2
      obtain ⟨z, hz, _⟩ := DataW.trod_int hg0 ht0
      obtain ⟨A1, c1, F, hF, lF, S1⟩ := open_intsC hti hei hCi ht1
      obtain ⟨A2, c2, L, hL, lL, S2⟩ := open_boxesC ht he hone hC h0 h1 h2 h3 ht2
      have e0 : v0 = .int .i64 z := by injection hz
      have e1 : v1 = .slice A1 F.length c1 := by injection hF
      have e2 : v2 = .slice A2 L.length c2 := by injection hL
      have a0 := hat 0 (by omega)
      have a1 := hat 1 (by omega)
      have a2 := hat 2 (by omega)
      rw [Addr.add_add] at a0 a1 a2
      rw [Nat.add_zero] at a0
      exact ⟨⟨z, A1, F, c1, A2, L, c2⟩, ⟨by rw [a0, hv0, e0], by rw [a1, hv1, e1], by rw [a2, hv2, e2]⟩, ⟨S1, S2, lF, lL⟩⟩
    obtain ⟨l, hll, hp⟩ := list_ofC _ len hel
    refine ⟨some a, cap, l, by rw [hll], by omega, ?_, fun y hy => by
      obtain ⟨i, hi⟩ := List.getElem?_of_mem hy
      exact (hp i y hi).2⟩
    rcases l with _ | ⟨y, l'⟩
    · exact .inl rfl
    · have hfirst := (hp 0 y rfl).1.1
      have hblk : a.block < w.heap.size := by have := cell_ltC hfirst; rwa [add_blockC] at this
      have hsp : a.spot = none := by simpa [Addr.add] using World.cell?_spot hfirst
      obtain ⟨b, off, sp⟩ := a
      simp only at hsp
      subst hsp
      refine .inr ⟨b, off, rfl, hblk, fun k x hk => ?_⟩
      have := (hp k x hk).1
      rw [add_offC, add_offC, add_offC] at this
      exact this
end
end Go.Proofs.YtjpkpfmpjgeeiaaGreat
namespace Go.Proofs.YtjpkpfmpjgeeiaaGreat
open Go.RowKit Go.ChangeShapes Go.WideShapes Go.Deep Go.Joins
set_option linter.unusedVariables false

section
variable {H : Type} {enc : TypeId × Value → H} {P : Program} {w : World} {base : Nat} {spare : Nat → Bool} {held : Bool}
end
end Go.Proofs.YtjpkpfmpjgeeiaaGreat
namespace Go.Proofs.YtjpkpfmpjgeeiaaGreat
open Go.RowKit Go.ChangeShapes Go.WideShapes Go.Deep Go.Joins
set_option linter.unusedVariables false
section
variable {H : Type} {enc : TypeId × Value → H} {P : Program} {w : World} {base : Nat} {spare : Nat → Bool} {held : Bool}
theorem open_evC {t e : TypeId} {f0 f1 f2 f3 f4 f5 f6 : Field} {fuel : Nat} {cs : List Value} {x : DataW H × List MemPlace} (ht : P.underlying t = some (.slice e)) (he : P.underlying e = some (.struct #[f0, f1, f2, f3, f4, f5, f6])) (hone : oneCellFields P #[f0, f1, f2, f3, f4, f5, f6] = true) (hC : P.cellsOf e = 7)
    (h0 : P.underlying f0.type = some (.int .i64)) (h1 : P.underlying f1.type = some (.int .i64)) (h2 : P.underlying f2.type = some (.int .i64)) (h3 : P.underlying f3.type = some (.int .i64)) (h4 : P.underlying f4.type = some (.int .i64)) (h5 : P.underlying f5.type = some (.int .i64)) (h6 : P.underlying f6.type = some (.int .i64)) (h : DataW.trod enc P w base spare held fuel t cs = some x) :
    ∃ (A : Option Addr) (c : Nat) (l : List Ev), cs = [.slice A l.length c] ∧ l.length ≤ maxLen ∧ evL w w.heap.size A l := by
  rcases open_slice ht h with ⟨rfl, _⟩ | ⟨a, len, cap, m, n, D, Pl, rfl, hb, hl, hm, hmm, _, hx⟩
  · exact ⟨none, 0, [], rfl, Nat.zero_le _, .inl rfl⟩
  · have hlm : len ≤ m := by rw [hmm]; split <;> omega
    have hel : ∀ i, i < len → ∃ y : Ev, w.cell? (a.add (i * 7)) = some (.int .i64 y.nod) ∧ w.cell? (a.add (i * 7 + 1)) = some (.int .i64 y.seq) ∧ w.cell? (a.add (i * 7 + 2)) = some (.int .i64 y.stm) ∧ w.cell? (a.add (i * 7 + 3)) = some (.int .i64 y.knd) ∧ w.cell? (a.add (i * 7 + 4)) = some (.int .i64 y.par) ∧ w.cell? (a.add (i * 7 + 5)) = some (.int .i64 y.aa) ∧ w.cell? (a.add (i * 7 + 6)) = some (.int .i64 y.bb) := by
      intro i hi
      obtain ⟨cs', hcs, htr⟩ := hx i (by omega)
      rw [hC] at hcs
      obtain ⟨_, hcl, hat⟩ := World.cells?_some hcs
      obtain ⟨v0, y0, n0, hv0, ht0⟩ := field_atC he hone hC htr 0 f0 rfl
      obtain ⟨x0, hx0, _⟩ := DataW.trod_int h0 ht0
      have e0 : v0 = .int .i64 x0 := by injection hx0
      have a0 := hat 0 (by omega)
      obtain ⟨v1, y1, n1, hv1, ht1⟩ := field_atC he hone hC htr 1 f1 rfl
      obtain ⟨x1, hx1, _⟩ := DataW.trod_int h1 ht1
      have e1 : v1 = .int .i64 x1 := by injection hx1
      have a1 := hat 1 (by omega)
      obtain ⟨v2, y2, n2, hv2, ht2⟩ := field_atC he hone hC htr 2 f2 rfl
      obtain ⟨x2, hx2, _⟩ := DataW.trod_int h2 ht2
      have e2 : v2 = .int .i64 x2 := by injection hx2
      have a2 := hat 2 (by omega)
      obtain ⟨v3, y3, n3, hv3, ht3⟩ := field_atC he hone hC htr 3 f3 rfl
      obtain ⟨x3, hx3, _⟩ := DataW.trod_int h3 ht3
      have e3 : v3 = .int .i64 x3 := by injection hx3
      have a3 := hat 3 (by omega)
      obtain ⟨v4, y4, n4, hv4, ht4⟩ := field_atC he hone hC htr 4 f4 rfl
      obtain ⟨x4, hx4, _⟩ := DataW.trod_int h4 ht4
      have e4 : v4 = .int .i64 x4 := by injection hx4
      have a4 := hat 4 (by omega)
      obtain ⟨v5, y5, n5, hv5, ht5⟩ := field_atC he hone hC htr 5 f5 rfl
      obtain ⟨x5, hx5, _⟩ := DataW.trod_int h5 ht5
      have e5 : v5 = .int .i64 x5 := by injection hx5
      have a5 := hat 5 (by omega)
      obtain ⟨v6, y6, n6, hv6, ht6⟩ := field_atC he hone hC htr 6 f6 rfl
      obtain ⟨x6, hx6, _⟩ := DataW.trod_int h6 ht6
      have e6 : v6 = .int .i64 x6 := by injection hx6
      have a6 := hat 6 (by omega)
      rw [Addr.add_add] at a0 a1 a2 a3 a4 a5 a6
      rw [Nat.add_zero] at a0
      exact ⟨⟨x0, x1, x2, x3, x4, x5, x6⟩, by rw [a0, hv0, e0], by rw [a1, hv1, e1], by rw [a2, hv2, e2], by rw [a3, hv3, e3], by rw [a4, hv4, e4], by rw [a5, hv5, e5], by rw [a6, hv6, e6]⟩
    obtain ⟨l, hll, hp⟩ := list_ofC _ len hel
    refine ⟨some a, cap, l, by rw [hll], by omega, ?_⟩
    rcases l with _ | ⟨y, l'⟩
    · exact .inl rfl
    · have hfirst := (hp 0 y rfl).1
      have hblk : a.block < w.heap.size := by have := cell_ltC hfirst; rwa [add_blockC] at this
      have hsp : a.spot = none := by simpa [Addr.add] using World.cell?_spot hfirst
      obtain ⟨b, off, sp⟩ := a
      simp only at hsp
      subst hsp
      refine .inr ⟨b, off, rfl, hblk, fun k x hk => ?_⟩
      have := hp k x hk
      simp only [add_offC] at this
      exact this
end
end Go.Proofs.YtjpkpfmpjgeeiaaGreat
