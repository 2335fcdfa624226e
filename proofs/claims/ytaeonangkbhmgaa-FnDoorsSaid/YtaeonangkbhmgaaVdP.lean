/- Chapter 4: acts, verdicts and signs: plain facts. -/
import Derived.Test.YtaeonangkbhmgaaDoaP
namespace Go.Proofs.Ytaeonangkbhmgaa
open Go.RowKit
set_option linter.unusedVariables false
theorem ok_kinds {k s : Int} {l o f : Bool} (h : doorB k s l o f = true) : k = 0 ∨ k = 1 ∨ k = 2 := by
  cases hk : (k == 0)
  · have := kindB_iff.1 (ok_kind h hk); omega
  · exact Or.inl (by simpa using hk)
/-- the door is valid, and what is inside has changed only if the door stood open -/
def okF (d x : Dr) : Bool := x.ok && ((x.f == d.f) || d.o)
def stepsOk (d : Dr) : Bool :=
  okF d (advD d).1 && okF d (relD d).1 && okF d (cutD d) && okF d (handD d 1).1 && okF d (handD d 2).1 && okF d (handD d 3).1 && okF d (recD d 0 0 0 0).1 && okF d (begD d 1).1 && okF d (begD d 2).1 && okF d d
theorem steps_ok {k s : Int} {l o f : Bool} (h : doorB k s l o f = true) : stepsOk ⟨k, s, l, o, f⟩ = true := by
  rcases ok_kinds h with rfl | rfl | rfl <;> rcases fit_of h with rfl | rfl | rfl | rfl | rfl | rfl | rfl <;> revert l o f <;> decide +kernel
theorem act_okF {d : Dr} (h : d.ok = true) (a : Int) : okF d (actD d a) = true := by
  obtain ⟨k, s, l, o, f⟩ := d
  have h9 := steps_ok h
  simp only [stepsOk, Bool.and_eq_true] at h9
  obtain ⟨⟨⟨⟨⟨⟨⟨⟨⟨q1, q2⟩, q3⟩, q4⟩, q5⟩, q6⟩, q7⟩, q8⟩, q9⟩, q0⟩ := h9
  unfold actD
  repeat' split
  all_goals assumption
theorem act_ok {d : Dr} (h : d.ok = true) (a : Int) : (actD d a).ok = true := by
  have := act_okF h a; simp only [okF, Bool.and_eq_true] at this; exact this.1
theorem act_full {d : Dr} (h : d.ok = true) (a : Int) : ((actD d a).f == d.f || d.o) = true := by
  have := act_okF h a; simp only [okF, Bool.and_eq_true] at this; exact this.2
theorem dAt_ok {d : Dr} (h : d.ok = true) (l : List Int) : ∀ n, (dAt d l n).ok = true
  | 0 => h
  | n + 1 => act_ok (dAt_ok h l n) _
theorem doActs_ok {d : Dr} (h : d.ok = true) (l : List Int) : (doActs d l).1.ok = true := by
  unfold doActs; split
  · exact dAt_ok h l _
  · exact h
/-- the faults of round i -/
def fA (i : Nat) : Int := if i / 2 = 0 then ((1 + i % 2 : Nat) : Int) else 0
def fB (i : Nat) : Int := if i / 2 = 1 then ((1 + i % 2 : Nat) : Int) else 0
def fC (i : Nat) : Int := if i / 2 = 2 then ((1 + i % 2 : Nat) : Int) else 0
def fE (i : Nat) : Int := if i / 2 = 3 then ((1 + i % 2 : Nat) : Int) else 0
def isW (d : Dr) (w : Int) : Bool := (w == 1 && truthD d != 1) || w == truthD d
/-- what the law asks of a round, for a door after a power cut -/
def vdB (d : Dr) (a b c e : Int) : Bool :=
  (signsD d a b c e).2 && (recD d a b c e).2.2 && ((recD d a b c e).2.1 == verdD d.k (signsD d a b c e).1) && (cntF a b c e == 1) && (recD d a b c e).1.ok &&
  ((recD d a b c e).1 == (if (recD d a b c e).2.1 = 3 ∨ (recD d a b c e).2.1 = 4 then ⟨0, 0, false, false, d.f⟩ else d)) &&
  ((recD d a b c e).2.1 == 1 || (recD d a b c e).2.1 == truthD d)
theorem vd_all : ∀ i, i < 8 → ∀ l o f, (o && !l) = false → vdB ⟨1, 0, l, o, f⟩ (fA i) (fB i) (fC i) (fE i) = true ∧ vdB ⟨2, 0, l, o, f⟩ (fA i) (fB i) (fC i) (fE i) = true := by decide +kernel
theorem vd_0 : ∀ l o f, (o && !l) = false → ∀ k : Fin 2, (recD ⟨1 + k, 0, l, o, f⟩ 0 0 0 0).2 = (truthD ⟨1 + k, 0, l, o, f⟩, true) ∧ (truthD ⟨1 + k, 0, l, o, f⟩ = 2 ∨ truthD ⟨1 + k, 0, l, o, f⟩ = 3 ∨ truthD ⟨1 + k, 0, l, o, f⟩ = 4) := by decide +kernel
end Go.Proofs.Ytaeonangkbhmgaa
