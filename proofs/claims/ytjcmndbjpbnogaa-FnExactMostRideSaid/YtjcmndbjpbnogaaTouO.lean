/- What an argument's reading gives: Sp by value, and slices of them (gen_opn.py). -/
import Derived.Test.YtjcmndbjpbnogaaTouS
import Derived.Test.YtjcmndbjpbnogaaColO
import Derived.Test.YtjcmndbjpbnogaaDorO
namespace Go.Proofs.Ytjcmndbjpbnogaa
open Go.RowKit Go.ChangeShapes Go.WideShapes Go.Deep Go.Joins
set_option linter.unusedVariables false
theorem array5_sp {cs : Array Value} {u0 u1 u2 u3 u4 : Value} (h : cs.size = 5) (h0 : cs[0]? = some u0) (h1 : cs[1]? = some u1) (h2 : cs[2]? = some u2) (h3 : cs[3]? = some u3) (h4 : cs[4]? = some u4) : cs = #[u0, u1, u2, u3, u4] := by
  obtain ⟨l⟩ := cs
  match l, h with
  | [x0, x1, x2, x3, x4], _ => simp at h0 h1 h2 h3 h4; simp [h0, h1, h2, h3, h4]
section
variable {H : Type} {enc : TypeId × Value → H} {P : Program} {w : World} {base : Nat} {spare : Nat → Bool} {held : Bool}
theorem open_sp {r : Reach} {b0 : Nat} {t : TypeId} {f0 f1 f2 f3 f4 : Field} {v : Value} {d : DataW H} {p : List MemPlace} (hs : P.underlying t = some (.struct #[f0, f1, f2, f3, f4])) (hone : oneCellFields P #[f0, f1, f2, f3, f4] = true) (hC : P.cellsOf t = 5)
    (h0 : P.underlying f0.type = some (.int .i64)) (h1 : P.underlying f1.type = some (.int .i64)) (h2 : P.underlying f2.type = some (.int .i64)) (h3 : P.underlying f3.type = some (.int .i64)) (h4 : P.underlying f4.type = some (.int .i64))
    (hv : Value.okWide P w r b0 t v) (h : DataW.Trod enc P w base spare held t v d p) :
    ∃ (a0 : Int) (a1 : Int) (a2 : Int) (a3 : Int) (a4 : Int), v = .agg #[.int .i64 a0, .int .i64 a1, .int .i64 a2, .int .i64 a3, .int .i64 a4] ∧ ((Lit.int .i64 a0).wf = true ∧ (Lit.int .i64 a1).wf = true ∧ (Lit.int .i64 a2).wf = true ∧ (Lit.int .i64 a3).wf = true ∧ (Lit.int .i64 a4).wf = true) := by
  obtain ⟨cs, rfl, hsz, hall⟩ := open_aggN hs hone hC hv h
  obtain ⟨a0, g0, w0⟩ := fieldI hall 0 f0 rfl h0
  obtain ⟨a1, g1, w1⟩ := fieldI hall 1 f1 rfl h1
  obtain ⟨a2, g2, w2⟩ := fieldI hall 2 f2 rfl h2
  obtain ⟨a3, g3, w3⟩ := fieldI hall 3 f3 rfl h3
  obtain ⟨a4, g4, w4⟩ := fieldI hall 4 f4 rfl h4
  exact ⟨a0, a1, a2, a3, a4, by rw [array5_sp hsz g0 g1 g2 g3 g4], w0, w1, w2, w3, w4⟩
theorem open_spC {t e : TypeId} {f0 f1 f2 f3 f4 : Field} {fuel : Nat} {cs : List Value} {x : DataW H × List MemPlace} (ht : P.underlying t = some (.slice e)) (he : P.underlying e = some (.struct #[f0, f1, f2, f3, f4])) (hone : oneCellFields P #[f0, f1, f2, f3, f4] = true) (hC : P.cellsOf e = 5)
    (h0 : P.underlying f0.type = some (.int .i64)) (h1 : P.underlying f1.type = some (.int .i64)) (h2 : P.underlying f2.type = some (.int .i64)) (h3 : P.underlying f3.type = some (.int .i64)) (h4 : P.underlying f4.type = some (.int .i64)) (h : DataW.trod enc P w base spare held fuel t cs = some x) :
    ∃ (A : Option Addr) (c : Nat) (l : List Sp), cs = [.slice A l.length c] ∧ l.length ≤ maxLen ∧ spL w w.heap.size A l := by
  rcases open_slice ht h with ⟨rfl, _⟩ | ⟨a, len, cap, m, n, D, Pl, rfl, hb, hl, hm, hmm, _, hx⟩
  · exact ⟨none, 0, [], rfl, Nat.zero_le _, .inl rfl⟩
  · have hlm : len ≤ m := by rw [hmm]; split <;> omega
    have hel : ∀ i, i < len → ∃ y : Sp, w.cell? (a.add (i * 5)) = some (.int .i64 y.start) ∧ w.cell? (a.add (i * 5 + 1)) = some (.int .i64 y.stop) ∧ w.cell? (a.add (i * 5 + 2)) = some (.int .i64 y.work) ∧ w.cell? (a.add (i * 5 + 3)) = some (.int .i64 y.bring) ∧ w.cell? (a.add (i * 5 + 4)) = some (.int .i64 y.fetch) := by
      intro i hi
      obtain ⟨cs', hcs, htr⟩ := hx i (by omega)
      rw [hC] at hcs
      obtain ⟨_, hcl, hat⟩ := World.cells?_some hcs
      obtain ⟨v0, y0, n0, hv0, ht0⟩ := field_atC he hone hC htr 0 f0 rfl
      obtain ⟨x0, hx0, _⟩ := DataW.trod_int h0 ht0
      have e0 : v0 = .int .i64 x0 := by injection hx0
      have a0 := hat 0 (by omega)
      obtain ⟨v1, y1, n1, hv1, ht1⟩ := field_atC he hone hC htr 1 f1 rfl
      obtain ⟨x1, hx1, _⟩ := DataW.trod_int h1 ht1
      have e1 : v1 = .int .i64 x1 := by injection hx1
      have a1 := hat 1 (by omega)
      obtain ⟨v2, y2, n2, hv2, ht2⟩ := field_atC he hone hC htr 2 f2 rfl
      obtain ⟨x2, hx2, _⟩ := DataW.trod_int h2 ht2
      have e2 : v2 = .int .i64 x2 := by injection hx2
      have a2 := hat 2 (by omega)
      obtain ⟨v3, y3, n3, hv3, ht3⟩ := field_atC he hone hC htr 3 f3 rfl
      obtain ⟨x3, hx3, _⟩ := DataW.trod_int h3 ht3
      have e3 : v3 = .int .i64 x3 := by injection hx3
      have a3 := hat 3 (by omega)
      obtain ⟨v4, y4, n4, hv4, ht4⟩ := field_atC he hone hC htr 4 f4 rfl
      obtain ⟨x4, hx4, _⟩ := DataW.trod_int h4 ht4
      have e4 : v4 = .int .i64 x4 := by injection hx4
      have a4 := hat 4 (by omega)
      rw [Addr.add_add] at a0 a1 a2 a3 a4
      rw [Nat.add_zero] at a0
      exact ⟨⟨x0, x1, x2, x3, x4⟩, by rw [a0, hv0, e0], by rw [a1, hv1, e1], by rw [a2, hv2, e2], by rw [a3, hv3, e3], by rw [a4, hv4, e4]⟩
    obtain ⟨l, hll, hp⟩ := list_ofC _ len hel
    refine ⟨some a, cap, l, by rw [hll], by omega, ?_⟩
    rcases l with _ | ⟨y, l'⟩
    · exact .inl rfl
    · have hfirst := (hp 0 y rfl).1
      have hblk : a.block < w.heap.size := by have := cell_ltC hfirst; rwa [add_blockC] at this
      have hsp : a.spot = none := by simpa [Addr.add] using World.cell?_spot hfirst
      obtain ⟨b, off, sp⟩ := a
      simp only at hsp
      subst hsp
      refine .inr ⟨b, off, rfl, hblk, fun k x hk => ?_⟩
      have := hp k x hk
      simp only [add_offC] at this
      exact this
theorem open_sps {r : Reach} {b0 : Nat} {t e : TypeId} {f0 f1 f2 f3 f4 : Field} {v : Value} {d : DataW H} {p : List MemPlace} (ht : P.underlying t = some (.slice e)) (he : P.underlying e = some (.struct #[f0, f1, f2, f3, f4])) (hone : oneCellFields P #[f0, f1, f2, f3, f4] = true) (hC : P.cellsOf e = 5)
    (h0 : P.underlying f0.type = some (.int .i64)) (h1 : P.underlying f1.type = some (.int .i64)) (h2 : P.underlying f2.type = some (.int .i64)) (h3 : P.underlying f3.type = some (.int .i64)) (h4 : P.underlying f4.type = some (.int .i64)) (hv : Value.okWide P w r b0 t v) (h : DataW.Trod enc P w base spare held t v d p) :
    ∃ (A : Option Addr) (c : Nat) (l : List Sp), v = .slice A l.length c ∧ l.length ≤ maxLen ∧ spL w w.heap.size A l := by
  obtain ⟨a, len, cap, rfl⟩ := okWide_slice ht hv
  obtain ⟨fuel, hf⟩ := h
  obtain ⟨A, c, l, e1, hl, hS⟩ := open_spC ht he hone hC h0 h1 h2 h3 h4 hf
  simp only [Value.cells, List.cons.injEq, and_true] at e1
  exact ⟨A, c, l, e1, hl, hS⟩
end
end Go.Proofs.Ytjcmndbjpbnogaa
