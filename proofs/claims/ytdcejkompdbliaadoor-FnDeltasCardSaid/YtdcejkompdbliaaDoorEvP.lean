/- Chapter 8: journals: plain facts. -/
import Derived.Test.YtdcejkompdbliaaDoorGraP
namespace Go.Proofs.YtdcejkompdbliaaDoor
open Go.RowKit
set_option linter.unusedVariables false

structure Ev where
  nod : Int
  seq : Int
  stm : Int
  knd : Int
  par : Int
  aa : Int
  bb : Int
deriving DecidableEq
def zeroE : Ev := ⟨0, 0, 0, 0, 0, 0, 0⟩
def evB (e : Ev) : Bool := inR e.nod 0 5 && inR e.seq 1 999 && inR e.stm 1 100000 && inR e.knd 1 4 && inR e.par 1 999 && inR e.aa 0 20000 && inR e.bb 0 20000
/-- y may stand behind x -/
def folB (x y : Ev) : Bool := decide (x.nod < y.nod) || (decide (x.nod = y.nod) && decide (x.seq < y.seq) && decide (x.stm < y.stm))
def folA : List Ev → Bool
  | [] => true
  | [_] => true
  | x :: y :: r => folB x y && folA (y :: r)
def jrnB (l : List Ev) : Bool := decide (l.length ≤ 60) && l.all evB && folA l
theorem folB_iff {x y : Ev} : folB x y = true ↔ x.nod < y.nod ∨ (x.nod = y.nod ∧ x.seq < y.seq ∧ x.stm < y.stm) := by
  simp only [folB, Bool.or_eq_true, Bool.and_eq_true, decide_eq_true_eq, and_assoc]
theorem folB_trans {x y z : Ev} (h1 : folB x y = true) (h2 : folB y z = true) : folB x z = true := by
  rw [folB_iff] at *; omega
theorem evB_facts {e : Ev} (h : evB e = true) : (0 ≤ e.nod ∧ e.nod ≤ 5) ∧ (1 ≤ e.seq ∧ e.seq ≤ 999) ∧ (1 ≤ e.stm ∧ e.stm ≤ 100000) ∧ (1 ≤ e.knd ∧ e.knd ≤ 4) ∧ (1 ≤ e.par ∧ e.par ≤ 999) ∧ (0 ≤ e.aa ∧ e.aa ≤ 20000) ∧ (0 ≤ e.bb ∧ e.bb ≤ 20000) := by
  simp only [evB, Bool.and_eq_true, inR_iff] at h; omega
/-- adjacent ones may follow: the same by indices -/
theorem folA_iff : ∀ {l : List Ev}, folA l = true ↔ ∀ k x y, l[k]? = some x → l[k + 1]? = some y → folB x y = true
  | [] => by simp [folA]
  | [a] => by simp [folA]
  | a :: b :: r => by
    rw [folA, Bool.and_eq_true, folA_iff (l := b :: r)]
    constructor
    · rintro ⟨h1, h2⟩ k x y hx hy
      cases k with
      | zero => simp at hx hy; subst hx hy; exact h1
      | succ k => exact h2 k x y (by simpa using hx) (by simpa using hy)
    · intro h
      exact ⟨h 0 a b rfl rfl, fun k x y hx hy => h (k + 1) x y (by simpa using hx) (by simpa using hy)⟩
theorem folA_pair {l : List Ev} : folA l = true ↔ l.Pairwise (fun x y => folB x y = true) := by
  induction l with
  | nil => simp [folA]
  | cons a r ih =>
    cases r with
    | nil => simp [folA]
    | cons b r =>
      rw [folA, Bool.and_eq_true, ih, List.pairwise_cons (a := a) (l := b :: r)]
      constructor
      · rintro ⟨h1, h2⟩
        refine ⟨fun y hy => ?_, h2⟩
        rcases List.mem_cons.1 hy with rfl | hy
        · exact h1
        · exact folB_trans h1 ((List.pairwise_cons.1 h2).1 y hy)
      · rintro ⟨h1, h2⟩
        exact ⟨h1 b (by simp), h2⟩
theorem jrn_long {l : List Ev} (h : 60 < l.length) : jrnB l = false := by unfold jrnB; rw [decide_eq_false (by omega)]; rfl
theorem jrn_bad {l : List Ev} {k : Nat} {x : Ev} (hx : l[k]? = some x) (h : evB x = false) : jrnB l = false := by
  have : l.all evB = false := by rw [List.all_eq_false]; exact ⟨x, List.mem_of_getElem? hx, by simp [h]⟩
  unfold jrnB; rw [this]; simp
theorem jrn_off {l : List Ev} {k : Nat} {x y : Ev} (hx : l[k]? = some x) (hy : l[k + 1]? = some y) (h : folB x y = false) : jrnB l = false := by
  have : folA l = false := by
    cases h2 : folA l
    · rfl
    · rw [folA_iff.1 h2 k x y hx hy] at h; cases h
  unfold jrnB; rw [this]; simp
/-- the first k are valid and in order -/
def JrnTo (l : List Ev) (k : Nat) : Prop := (∀ i x, i < k → l[i]? = some x → evB x = true) ∧ ∀ i x y, i + 1 < k → l[i]? = some x → l[i + 1]? = some y → folB x y = true
theorem jrnTo_zero (l : List Ev) : JrnTo l 0 := ⟨fun _ _ h => by omega, fun _ _ _ h => by omega⟩
theorem jrnTo_succ {l : List Ev} {k : Nat} {y : Ev} (h : JrnTo l k) (hy : l[k]? = some y) (he : evB y = true) (hf : ∀ x, 0 < k → l[k - 1]? = some x → folB x y = true) : JrnTo l (k + 1) := by
  refine ⟨fun i x hi hx => ?_, fun i x z hi hx hz => ?_⟩
  · rcases Nat.lt_or_ge i k with hik | hik
    · exact h.1 i x hik hx
    · have : i = k := by omega
      subst this; rw [hy] at hx; injection hx with hx; subst hx; exact he
  · rcases Nat.lt_or_ge (i + 1) k with hik | hik
    · exact h.2 i x z hik hx hz
    · have : i + 1 = k := by omega
      subst this; rw [hy] at hz; injection hz with hz; subst hz
      exact hf x (by omega) (by simpa using hx)
theorem jrn_all {l : List Ev} (hl : l.length ≤ 60) (h : JrnTo l l.length) : jrnB l = true := by
  unfold jrnB
  rw [decide_eq_true hl, Bool.true_and, Bool.and_eq_true, List.all_eq_true, folA_iff]
  refine ⟨fun x hx => ?_, fun k x y hx hy => ?_⟩
  · obtain ⟨i, hi⟩ := List.getElem?_of_mem hx
    exact h.1 i x (List.getElem?_eq_some_iff.1 hi).1 hi
  · exact h.2 k x y (List.getElem?_eq_some_iff.1 hy).1 hx hy
theorem jrn_len {l : List Ev} (h : jrnB l = true) : l.length ≤ 60 := by
  simp only [jrnB, Bool.and_eq_true, decide_eq_true_eq] at h; exact h.1.1
theorem jrn_ev {l : List Ev} (h : jrnB l = true) {x : Ev} (hx : x ∈ l) : evB x = true := by
  simp only [jrnB, Bool.and_eq_true, List.all_eq_true] at h; exact h.1.2 x hx
theorem jrn_at {l : List Ev} (h : jrnB l = true) {k : Nat} {x : Ev} (hx : l[k]? = some x) : evB x = true := jrn_ev h (List.mem_of_getElem? hx)
theorem jrn_pair {l : List Ev} (h : jrnB l = true) : l.Pairwise (fun x y => folB x y = true) := by
  simp only [jrnB, Bool.and_eq_true] at h; exact folA_pair.1 h.2
theorem jrn_iff {l : List Ev} : jrnB l = true ↔ l.length ≤ 60 ∧ (∀ x ∈ l, evB x = true) ∧ l.Pairwise (fun x y => folB x y = true) := by
  simp only [jrnB, Bool.and_eq_true, decide_eq_true_eq, List.all_eq_true, folA_pair, and_assoc]
end Go.Proofs.YtdcejkompdbliaaDoor
