/- Chapter 5: what revoking does: plain facts for the law. -/
import Derived.Test.YtockjdaijhfgaaaNdW
import Derived.Test.YtockjdaijhfgaaaHas
namespace Go.Proofs.Ytockjdaijhfgaaa
open Go.RowKit
set_option linter.unusedVariables false
theorem rh_sub {l l' : List Gr} {p t sp who : Int} (hl : ∀ g ∈ l', appB p t g = true → g ∈ l) : ∀ (h : Nat) (x : Int), rhB l' p t sp who h x = true → rhB l p t sp who h x = true
  | 0, x, hr => hr
  | h + 1, x, hr => by
    obtain ⟨g, h1, h2, h3, h4, h5⟩ := rh_succ.1 hr
    exact rh_succ.2 ⟨g, hl g h1 h2, h2, h3, h4, rh_sub hl h _ h5⟩
theorem short_sub {l l' : List Gr} {p t sp who owner : Int} (hl : ∀ g ∈ l', appB p t g = true → g ∈ l) (h : (shortB l' p t sp who owner).isSome = true) : (shortB l p t sp who owner).isSome = true := by
  obtain ⟨k, hk⟩ := Option.isSome_iff_exists.1 h
  have h1 := (find_range _ 7 k).1 hk
  cases hs : shortB l p t sp who owner with
  | some _ => rfl
  | none =>
    unfold shortB at hs; rw [List.find?_eq_none] at hs
    exact absurd (rh_sub hl k owner h1.2.1) (hs k (by simpa using h1.1))
/-- revoking a grant gives nobody a right -/
theorem rev_may {l : List Gr} {owner who p t i : Int} (h : mayB (revG l i).1 owner who p t = true) : mayB l owner who p t = true := by
  unfold revG at h
  split at h
  · rename_i hc
    simp only [Bool.and_eq_true, decide_eq_true_eq] at hc
    obtain ⟨k, rfl⟩ := Int.eq_ofNat_of_zero_le hc.1.1.2
    have hk : k < l.length := by have := hc.1.2; omega
    have hg : l[k]? = some l[k] := List.getElem?_eq_getElem hk
    simp only [Int.toNat_natCast, hg, Option.getD_some] at h
    unfold mayB at h ⊢
    simp only [Bool.and_eq_true] at h ⊢
    refine ⟨?_, short_sub (l' := l.set k (offG l[k])) (fun g hm ha => ?_) h.2⟩
    · have := h.1; unfold goodB at this ⊢; rw [grantsB_set hg] at this; exact this
    · rcases List.mem_or_eq_of_mem_set hm with h1 | h1
      · exact h1
      · subst h1; simp [appB, offG] at ha
  · exact h
theorem has_need {l : List Gr} {owner who p t : Int} {i : Nat} (hi : i < l.length) (hm : mayB l owner who p t = true) (hk : (revG l (i : Int)).2 = true) : hasB (needL l owner who p t) (i : Int) = !mayB (revG l (i : Int)).1 owner who p t := by
  have e : isNeed l owner who p t (i : Int) = !mayB (revG l (i : Int)).1 owner who p t := by unfold isNeed; rw [hk]; rfl
  rw [← e]
  unfold needL; rw [hm, if_pos rfl]
  cases hn : isNeed l owner who p t (i : Int)
  · unfold hasB; rw [List.any_eq_false]
    intro x hx he
    have : x = (i : Int) := by simpa using he
    subst this
    rw [(mem_needN.1 hx).2] at hn; cases hn
  · unfold hasB; rw [List.any_eq_true]
    exact ⟨(i : Int), mem_needN.2 ⟨⟨i, hi, rfl⟩, hn⟩, by simp⟩
theorem need_in {l : List Gr} {owner who p t : Int} {n : Nat} {x : Int} (hx : (needL l owner who p t)[n]? = some x) : mayB l owner who p t = true ∧ hasB ((chainA l owner who p t).getD []) x = true := by
  have hm := List.mem_of_getElem? hx
  refine ⟨?_, ?_⟩
  · cases h : mayB l owner who p t
    · unfold needL at hm; rw [h] at hm; simp at hm
    · rfl
  · rw [← need_chain] at hm
    have h1 := (List.mem_filter.1 ((sortL_perm _).mem_iff.1 hm)).1
    unfold hasB; rw [List.any_eq_true]; exact ⟨x, h1, by simp⟩
theorem need_six (l : List Gr) (owner who p t : Int) : (needL l owner who p t).length ≤ 6 := by
  rw [← need_chain, (sortL_perm _).length_eq]
  have h1 := List.length_filter_le (fun i => !mayB (revG l i).1 owner who p t) ((chainA l owner who p t).getD [])
  have h2 := chain_len l owner who p t
  dsimp only at h2
  omega
end Go.Proofs.Ytockjdaijhfgaaa
