/- What an argument's reading gives: a round. -/
import Derived.Test.YtjcmndbjpbnogaaTouO
import Derived.Test.YtjcmndbjpbnogaaTouR
namespace Go.Proofs.Ytjcmndbjpbnogaa
open Go.RowKit Go.ChangeShapes Go.WideShapes Go.Deep Go.Joins
set_option linter.unusedVariables false
section
variable {H : Type} {enc : TypeId × Value → H} {P : Program} {w : World} {base : Nat} {spare : Nat → Bool} {held : Bool}
theorem open_rwC {t ti ei : TypeId} {fuel : Nat} {cs : List Value} {x : DataW H × List MemPlace} (htt : P.underlying t = some (.slice ti)) (hCw : P.cellsOf ti = 1) (hti : P.underlying ti = some (.slice ei)) (hei : P.underlying ei = some (.int .i64)) (hCi : P.cellsOf ei = 1)
    (h : DataW.trod enc P w base spare held fuel t cs = some x) :
    ∃ (A : Option Addr) (c : Nat) (R : List Rw), cs = [.slice A R.length c] ∧ R.length ≤ maxLen ∧ rwL w w.heap.size A R ∧ ∀ y ∈ R, RV w w.heap.size y := by
  rcases open_slice htt h with ⟨rfl, _⟩ | ⟨a, len, cap, m, n, D, Pl, rfl, hb, hl, hm, hmm, _, hx⟩
  · exact ⟨none, 0, [], rfl, Nat.zero_le _, .inl rfl, fun y hy => by cases hy⟩
  · have hlm : len ≤ m := by rw [hmm]; split <;> omega
    have hel : ∀ i, i < len → ∃ y : Rw, w.cell? (a.add i) = some (.slice y.A y.l.length y.c) ∧ RV w w.heap.size y := by
      intro i hi
      obtain ⟨cs', hcs, htr⟩ := hx i (by omega)
      rw [hCw] at hcs
      obtain ⟨_, hcl, hat⟩ := World.cells?_some hcs
      obtain ⟨A1, c1, F, hF, lF, S1⟩ := open_intsC hti hei hCi htr
      have a0 := hat 0 (by omega)
      rw [Addr.add_add, Nat.mul_one, Nat.add_zero] at a0
      exact ⟨⟨A1, c1, F⟩, by rw [a0, hF]; rfl, S1, lF⟩
    obtain ⟨l, hll, hp⟩ := list_ofC _ len hel
    refine ⟨some a, cap, l, by rw [hll], by omega, ?_, fun y hy => by
      obtain ⟨i, hi⟩ := List.getElem?_of_mem hy
      exact (hp i y hi).2⟩
    rcases l with _ | ⟨y, l'⟩
    · exact .inl rfl
    · have hfirst := (hp 0 y rfl).1
      have hblk : a.block < w.heap.size := by have := cell_ltC hfirst; rwa [add_blockC] at this
      have hsp : a.spot = none := by simpa [Addr.add] using World.cell?_spot hfirst
      obtain ⟨b, off, sp⟩ := a
      simp only at hsp
      subst hsp
      refine .inr ⟨b, off, rfl, hblk, fun k x hk => ?_⟩
      have := (hp k x hk).1
      rw [add_offC] at this
      exact this
theorem open_rd_arg {r : Reach} {b0 : Nat} {tc : TypeId} {g0 g1 g2 g3 : Field} {tl ti ei tb e : TypeId} {f0 f1 f2 f3 f4 : Field} {v : Value} {d : DataW H} {p : List MemPlace} (hs : P.underlying tc = some (.struct #[g0, g1, g2, g3])) (honew : oneCellFields P #[g0, g1, g2, g3] = true) (hCw : P.cellsOf tc = 4)
    (hg0 : P.underlying g0.type = some (.int .i64)) (hg1 : P.underlying g1.type = some (.int .i64)) (hg2 : g2.type = tl) (hg3 : g3.type = tb) (htl : P.underlying tl = some (.slice ti)) (hCl : P.cellsOf ti = 1) (hti : P.underlying ti = some (.slice ei)) (hei : P.underlying ei = some (.int .i64)) (hCi : P.cellsOf ei = 1)
    (ht : P.underlying tb = some (.slice e)) (he : P.underlying e = some (.struct #[f0, f1, f2, f3, f4])) (hone : oneCellFields P #[f0, f1, f2, f3, f4] = true) (hC : P.cellsOf e = 5)
    (h0 : P.underlying f0.type = some (.int .i64)) (h1 : P.underlying f1.type = some (.int .i64)) (h2 : P.underlying f2.type = some (.int .i64)) (h3 : P.underlying f3.type = some (.int .i64)) (h4 : P.underlying f4.type = some (.int .i64)) (hv : Value.okWide P w r b0 tc v) (h : DataW.Trod enc P w base spare held tc v d p) :
    ∃ (b q : Int) (AL AS : Option Addr) (cL cS : Nat) (R : List Rw) (S : List Sp), v = .agg #[.int .i64 b, .int .i64 q, .slice AL R.length cL, .slice AS S.length cS] ∧ RdIn w w.heap.size AL R AS S := by
  obtain ⟨v0, v1, v2, v3, y0, y1, y2, y3, n, rfl, _, _, t0, t1, t2, t3⟩ := open_agg4 hs honew hCw hv h
  rw [hg2] at t2
  rw [hg3] at t3
  obtain ⟨b, e0, _, _⟩ := DataW.trod_int hg0 t0
  obtain ⟨q, e1, _, _⟩ := DataW.trod_int hg1 t1
  obtain ⟨AL, cL, R, e2, l2, S2, V2⟩ := open_rwC htl hCl hti hei hCi t2
  obtain ⟨AS, cS, S, e3, l3, S3⟩ := open_spC ht he hone hC h0 h1 h2 h3 h4 t3
  simp only [List.cons.injEq, and_true] at e0 e1 e2 e3
  subst e0 e1 e2 e3
  exact ⟨b, q, AL, AS, cL, cS, R, S, rfl, ⟨S2, V2, S3, l2, l3⟩⟩
end
end Go.Proofs.Ytjcmndbjpbnogaa
