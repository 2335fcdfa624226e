/- Chapter 5, plain: what the law on chains asks: the least number of grants, and the chain one grant after the other. -/
import Derived.Test.YtdaeljjjcgpcoaaGraY
namespace Go.Proofs.Ytdaeljjjcgpcoaa
open Go.RowKit
set_option linter.unusedVariables false
section
variable {l : List Gr} {p t who : Int}
theorem ch_step {x : Int} {m : Nat} (hr : rhB l p t 0 who (m + 1) x = true) :
    ∃ (i : Nat) (g : Gr), l[i]? = some g ∧ g.frm = x ∧ appB p t g = true ∧ (m : Int) ≤ g.dep ∧ rhB l p t 0 who m g.to = true ∧ chainL l p t who (m + 1) x = (i : Int) :: chainL l p t who m g.to := by
  obtain ⟨g, hg, ha, hd, hf, hr'⟩ := rh_succ.1 hr
  cases hi : l.findIdx? (chP l p t who m x) with
  | none =>
    rw [List.findIdx?_eq_none_iff] at hi
    have := hi g hg
    simp [chP, ha, hf, hr'] at this
    omega
  | some i =>
    obtain ⟨hlt, hp, _⟩ := List.findIdx?_eq_some_iff_getElem.1 hi
    have hli : l[i]? = some l[i] := List.getElem?_eq_getElem hlt
    simp only [chP, Bool.and_eq_true, beq_iff_eq, decide_eq_true_eq] at hp
    exact ⟨i, l[i], hli, hp.1.1.1, hp.1.1.2, hp.1.2, hp.2, by simp only [chainL, hi, hli, Option.getD_some]⟩
theorem ch_len : ∀ (h : Nat) (x : Int), rhB l p t 0 who h x = true → (chainL l p t who h x).length = h
  | 0, x, _ => rfl
  | h + 1, x, hr => by
    obtain ⟨i, g, _, _, _, _, h5, h6⟩ := ch_step hr
    rw [h6, List.length_cons, ch_len h g.to h5]
/-- all numbers above h are asked; m is the least that leads, or -1 -/
def LeastC (l : List Gr) (p t who owner h m : Int) : Prop :=
  (m = -1 ∧ ∀ j : Nat, h < j → j ≤ 6 → rhB l p t 0 who j owner = false) ∨ (∃ j : Nat, m = (j : Int) ∧ h < j ∧ j ≤ 6 ∧ rhB l p t 0 who j owner = true ∧ ∀ q : Nat, h < q → q < j → rhB l p t 0 who q owner = false)
variable {owner h m : Int}
theorem leastC_start : LeastC l p t who owner 6 (-1) := .inl ⟨rfl, fun j h1 h2 => by omega⟩
theorem leastC_yes {j : Nat} (hj : (j : Int) ≤ 6) (hr : rhB l p t 0 who j owner = true) : LeastC l p t who owner ((j : Int) - 1) j :=
  .inr ⟨j, rfl, by omega, by omega, hr, fun q h1 h2 => by omega⟩
theorem leastC_no {j : Nat} (hr : rhB l p t 0 who j owner = false) (hl : LeastC l p t who owner j m) : LeastC l p t who owner ((j : Int) - 1) m := by
  rcases hl with ⟨h1, h2⟩ | ⟨q, h1, h2, h3, h4, h5⟩
  · refine .inl ⟨h1, fun q h3 h4 => ?_⟩
    by_cases e : q = j
    · subst e; exact hr
    · exact h2 q (by omega) h4
  · refine .inr ⟨q, h1, by omega, h3, h4, fun x h6 h7 => ?_⟩
    by_cases e : x = j
    · subst e; exact hr
    · exact h5 x (by omega) h7
theorem leastC_range (hl : LeastC l p t who owner h m) : -1 ≤ m ∧ m ≤ 6 := by
  rcases hl with ⟨h1, _⟩ | ⟨q, h1, _, h3, _⟩ <;> omega
theorem leastC_end (hl : LeastC l p t who owner (-1) m) : (m = -1 ∧ shortB l p t 0 who owner = none) ∨ (∃ j : Nat, m = (j : Int) ∧ j ≤ 6 ∧ shortB l p t 0 who owner = some j ∧ rhB l p t 0 who j owner = true) := by
  rcases hl with ⟨h1, h2⟩ | ⟨q, h1, h2, h3, h4, h5⟩
  · refine .inl ⟨h1, ?_⟩
    unfold shortB
    rw [List.find?_eq_none]
    intro j hj
    rw [List.mem_range] at hj
    rw [h2 j (by omega) (by omega)]
    exact Bool.false_ne_true
  · exact .inr ⟨q, h1, h3, (find_range _ 7 q).2 ⟨by omega, h4, fun j hj => h5 j (by omega) hj⟩, h4⟩
/-- the rest of the chain from place i on -/
def ChainAt (l : List Gr) (p t who : Int) (C : List Int) (j i : Nat) (x : Int) : Prop := C.drop i = chainL l p t who (j - i) x ∧ rhB l p t 0 who (j - i) x = true
variable {C : List Int} {j i : Nat} {x : Int}
theorem chainAt_start (hr : rhB l p t 0 who j x = true) : ChainAt l p t who (chainL l p t who j x) j 0 x := ⟨by simp, by simpa using hr⟩
theorem chainAt_end (hc : ChainAt l p t who C j j x) : x = who := by
  have := hc.2
  rw [Nat.sub_self] at this
  exact rh_zero.1 this
theorem chainAt_next (hc : ChainAt l p t who C j i x) (hi : i < j) :
    ∃ (n : Nat) (g : Gr), C[i]? = some (n : Int) ∧ l[n]? = some g ∧ g.frm = x ∧ appB p t g = true ∧ (j : Int) - 1 - i ≤ g.dep ∧ ChainAt l p t who C j (i + 1) g.to := by
  obtain ⟨h1, h2⟩ := hc
  obtain ⟨m, hm⟩ : ∃ m, j - i = m + 1 := ⟨j - i - 1, by omega⟩
  rw [hm] at h1 h2
  obtain ⟨n, g, e1, e2, e3, e4, e5, e6⟩ := ch_step h2
  rw [e6] at h1
  refine ⟨n, g, ?_, e1, e2, e3, by omega, ?_, ?_⟩
  · have : (C.drop i)[0]? = C[i]? := by rw [List.getElem?_drop]; simp
    rw [← this, h1]; rfl
  · have : C.drop (i + 1) = (C.drop i).drop 1 := by rw [List.drop_drop]
    rw [this, h1, show j - (i + 1) = m by omega]; rfl
  · rw [show j - (i + 1) = m by omega]; exact e5
theorem chainA_none (hg : goodB l owner who p t = true) (hs : shortB l p t 0 who owner = none) : chainA l owner who p t = none := by unfold chainA; rw [if_pos hg, hs]; rfl
theorem chainA_some {j : Nat} (hg : goodB l owner who p t = true) (hs : shortB l p t 0 who owner = some j) : chainA l owner who p t = some (chainL l p t who j owner) := by unfold chainA; rw [if_pos hg, hs]; rfl
theorem good_not (hg : goodB l owner who p t = false) : chainA l owner who p t = none ∧ mayB l owner who p t = false := ⟨by unfold chainA; rw [hg]; rfl, by unfold mayB; rw [hg]; rfl⟩
end
end Go.Proofs.Ytdaeljjjcgpcoaa
