/- What an argument's reading gives: a bank reads as a list of columns. -/
import Derived.Test.YtpoiebebnpelhaaColO
import Derived.Test.YtpoiebebnpelhaaColD
namespace Go.Proofs.Ytpoiebebnpelhaa
open Go.RowKit Go.ChangeShapes Go.WideShapes Go.Deep Go.Joins
set_option linter.unusedVariables false
section
variable {H : Type} {enc : TypeId × Value → H} {P : Program} {w : World} {base : Nat} {spare : Nat → Bool} {held : Bool}
theorem open_bank {t tc : TypeId} {g0 g1 g2 : Field} {ti tb ei e : TypeId} {f0 f1 f2 f3 : Field} {fuel : Nat} {cs : List Value} {x : DataW H × List MemPlace} (htt : P.underlying t = some (.slice tc)) (hs : P.underlying tc = some (.struct #[g0, g1, g2])) (honew : oneCellFields P #[g0, g1, g2] = true) (hCw : P.cellsOf tc = 3)
    (hg0 : P.underlying g0.type = some (.int .i64)) (hg1 : g1.type = ti) (hg2 : g2.type = tb) (hti : P.underlying ti = some (.slice ei)) (hei : P.underlying ei = some (.int .i64)) (hCi : P.cellsOf ei = 1)
    (ht : P.underlying tb = some (.slice e)) (he : P.underlying e = some (.struct #[f0, f1, f2, f3])) (hone : oneCellFields P #[f0, f1, f2, f3] = true) (hC : P.cellsOf e = 4)
    (h0 : P.underlying f0.type = some (.int .i64)) (h1 : P.underlying f1.type = some (.int .i64)) (h2 : P.underlying f2.type = some (.int .i64)) (h3 : P.underlying f3.type = some .bool) (h : DataW.trod enc P w base spare held fuel t cs = some x) :
    ∃ (A : Option Addr) (c : Nat) (l : List Cl), cs = [.slice A l.length c] ∧ l.length ≤ maxLen ∧ KL w w.heap.size A l ∧ ∀ y ∈ l, CV w w.heap.size y := by
  rcases open_slice htt h with ⟨rfl, _⟩ | ⟨a, len, cap, m, n, D, Pl, rfl, hb, hl, hm, hmm, _, hx⟩
  · exact ⟨none, 0, [], rfl, Nat.zero_le _, .inl rfl, fun y hy => by cases hy⟩
  · have hlm : len ≤ m := by rw [hmm]; split <;> omega
    have hel : ∀ i, i < len → ∃ y : Cl, (w.cell? (a.add (i * 3)) = some (.int .i64 y.z) ∧ w.cell? (a.add (i * 3 + 1)) = some (.slice y.AF y.F.length y.cF) ∧ w.cell? (a.add (i * 3 + 2)) = some (.slice y.AB y.L.length y.cB)) ∧ CV w w.heap.size y := by
      intro i hi
      obtain ⟨cs', hcs, htr⟩ := hx i (by omega)
      rw [hCw] at hcs
      obtain ⟨_, hcl, hat⟩ := World.cells?_some hcs
      obtain ⟨v0, y0, n0, hv0, ht0⟩ := field_atC hs honew hCw htr 0 g0 rfl
      obtain ⟨v1, y1, n1, hv1, ht1⟩ := field_atC hs honew hCw htr 1 g1 rfl
      obtain ⟨v2, y2, n2, hv2, ht2⟩ := field_atC hs honew hCw htr 2 g2 rfl
      rw [hg1] at ht1
      rw [hg2] at ht2
      obtain ⟨z, hz, _⟩ := DataW.trod_int hg0 ht0
      obtain ⟨A1, c1, F, hF, lF, S1⟩ := open_intsC hti hei hCi ht1
      obtain ⟨A2, c2, L, hL, lL, S2⟩ := open_boxesC ht he hone hC h0 h1 h2 h3 ht2
      have e0 : v0 = .int .i64 z := by injection hz
      have e1 : v1 = .slice A1 F.length c1 := by injection hF
      have e2 : v2 = .slice A2 L.length c2 := by injection hL
      have a0 := hat 0 (by omega)
      have a1 := hat 1 (by omega)
      have a2 := hat 2 (by omega)
      rw [Addr.add_add] at a0 a1 a2
      rw [Nat.add_zero] at a0
      exact ⟨⟨z, A1, F, c1, A2, L, c2⟩, ⟨by rw [a0, hv0, e0], by rw [a1, hv1, e1], by rw [a2, hv2, e2]⟩, ⟨S1, S2, lF, lL⟩⟩
    obtain ⟨l, hll, hp⟩ := list_ofC _ len hel
    refine ⟨some a, cap, l, by rw [hll], by omega, ?_, fun y hy => by
      obtain ⟨i, hi⟩ := List.getElem?_of_mem hy
      exact (hp i y hi).2⟩
    rcases l with _ | ⟨y, l'⟩
    · exact .inl rfl
    · have hfirst := (hp 0 y rfl).1.1
      have hblk : a.block < w.heap.size := by have := cell_ltC hfirst; rwa [add_blockC] at this
      have hsp : a.spot = none := by simpa [Addr.add] using World.cell?_spot hfirst
      obtain ⟨b, off, sp⟩ := a
      simp only at hsp
      subst hsp
      refine .inr ⟨b, off, rfl, hblk, fun k x hk => ?_⟩
      have := (hp k x hk).1
      rw [add_offC, add_offC, add_offC] at this
      exact this
theorem open_bank_arg {r : Reach} {b0 : Nat} {t tc : TypeId} {g0 g1 g2 : Field} {ti tb ei e : TypeId} {f0 f1 f2 f3 : Field} {v : Value} {d : DataW H} {p : List MemPlace} (htt : P.underlying t = some (.slice tc)) (hs : P.underlying tc = some (.struct #[g0, g1, g2])) (honew : oneCellFields P #[g0, g1, g2] = true) (hCw : P.cellsOf tc = 3)
    (hg0 : P.underlying g0.type = some (.int .i64)) (hg1 : g1.type = ti) (hg2 : g2.type = tb) (hti : P.underlying ti = some (.slice ei)) (hei : P.underlying ei = some (.int .i64)) (hCi : P.cellsOf ei = 1)
    (ht : P.underlying tb = some (.slice e)) (he : P.underlying e = some (.struct #[f0, f1, f2, f3])) (hone : oneCellFields P #[f0, f1, f2, f3] = true) (hC : P.cellsOf e = 4)
    (h0 : P.underlying f0.type = some (.int .i64)) (h1 : P.underlying f1.type = some (.int .i64)) (h2 : P.underlying f2.type = some (.int .i64)) (h3 : P.underlying f3.type = some .bool) (hv : Value.okWide P w r b0 t v) (h : DataW.Trod enc P w base spare held t v d p) :
    ∃ (A : Option Addr) (c : Nat) (l : List Cl), v = .slice A l.length c ∧ l.length ≤ maxLen ∧ KL w w.heap.size A l ∧ ∀ y ∈ l, CV w w.heap.size y := by
  obtain ⟨a, len, cap, rfl⟩ := okWide_slice htt hv
  obtain ⟨fuel, hf⟩ := h
  obtain ⟨A, c, l, e1, hl, hS, hV⟩ := open_bank htt hs honew hCw hg0 hg1 hg2 hti hei hCi ht he hone hC h0 h1 h2 h3 hf
  simp only [Value.cells, List.cons.injEq, and_true] at e1
  exact ⟨A, c, l, e1, hl, hS, hV⟩
end
end Go.Proofs.Ytpoiebebnpelhaa
