/- Plain facts on the time after so many open hours, and the time before one more. -/
import Derived.Test.YtpooffekjealhaaWeekLw
namespace Go.Proofs.Ytpooffekjealhaa
open Go.RowKit
set_option linter.unusedVariables false

theorem cnt_shift (o c : List (Int × Int)) (t : Int) (k : Nat) : cntB o c t (k + 1) = (if openB o c t = true then 1 else 0) + cntB o c (t + 1) k := by
  have h := cnt_add o c t 1 k
  have e : cntB o c t 1 = if openB o c t = true then 1 else 0 := by
    show cntB o c t 0 + (if openB o c (t + ((0 : Nat) : Int)) = true then 1 else 0) = _
    rw [show t + ((0 : Nat) : Int) = t by omega]
    show (0 : Int) + _ = _
    omega
  rw [show k + 1 = 1 + k by omega, h, e]
  rfl
theorem shift_yes (o c : List (Int × Int)) (t : Int) (k : Nat) (h : openB o c t = true) : cntB o c t (k + 1) = 1 + cntB o c (t + 1) k := by rw [cnt_shift, if_pos h]
theorem shift_no (o c : List (Int × Int)) (t : Int) (k : Nat) (h : openB o c t = false) : cntB o c t (k + 1) = cntB o c (t + 1) k := by
  rw [cnt_shift, if_neg (by rw [h]; exact Bool.false_ne_true)]; omega

theorem bef_facts (o c : List (Int × Int)) : ∀ (f : Nat) (t left : Int), 0 ≤ left → ∃ d : Nat, d ≤ f ∧ befB o c f t left = t + d ∧ cntB o c t d ≤ left ∧ (d < f → cntB o c t (d + 1) = left + 1)
  | 0, t, left, h => ⟨0, Nat.le_refl _, by show t = t + ((0 : Nat) : Int); omega, h, fun h => absurd h (by omega)⟩
  | f + 1, t, left, h => by
    cases hop : openB o c t
    · obtain ⟨d, h1, h2, h3, h4⟩ := bef_facts o c f (t + 1) left h
      refine ⟨d + 1, by omega, by rw [bef_no _ _ _ _ _ hop, h2]; omega, by rw [shift_no _ _ _ _ hop]; exact h3, fun hd => by rw [shift_no _ _ _ _ hop]; exact h4 (by omega)⟩
    · by_cases h0 : left = 0
      · refine ⟨0, by omega, by rw [bef_hit _ _ _ _ _ h0 hop]; omega, h, fun _ => ?_⟩
        rw [shift_yes _ _ _ _ hop]
        show (1 : Int) + 0 = left + 1
        omega
      · obtain ⟨d, h1, h2, h3, h4⟩ := bef_facts o c f (t + 1) (left - 1) (by omega)
        refine ⟨d + 1, by omega, by rw [bef_yes _ _ _ _ _ h0 hop, h2]; omega, by rw [shift_yes _ _ _ _ hop]; omega, fun hd => ?_⟩
        rw [shift_yes _ _ _ _ hop, h4 (by omega)]
        omega
theorem aft_some (o c : List (Int × Int)) : ∀ (f : Nat) (t left t' : Int), 0 ≤ left → aftB o c f t left = some t' → ∃ d : Nat, d ≤ f ∧ t' = t + d ∧ cntB o c t d = left ∧ (left = 0 → d = 0) ∧ (0 < left → ∃ d' : Nat, d = d' + 1 ∧ openB o c (t + d') = true) ∧ t' ≤ befB o c f t left
  | 0, t, left, t', h, ha => by
    by_cases h0 : left = 0
    · rw [aft_zero _ _ _ _ _ h0] at ha
      injection ha with ha
      subst ha
      exact ⟨0, by omega, by omega, by rw [h0]; rfl, fun _ => rfl, fun h => by omega, Int.le_refl _⟩
    · rw [aft_end _ _ _ _ h0] at ha; cases ha
  | f + 1, t, left, t', h, ha => by
    obtain ⟨d0, _, hb, _⟩ := bef_facts o c (f + 1) t left h
    by_cases h0 : left = 0
    · rw [aft_zero _ _ _ _ _ h0] at ha
      injection ha with ha
      subst ha
      exact ⟨0, by omega, by omega, by rw [h0]; rfl, fun _ => rfl, fun h => by omega, by rw [hb]; omega⟩
    · cases hop : openB o c t
      · rw [aft_no _ _ _ _ _ h0 hop] at ha
        obtain ⟨d, h1, h2, h3, h4, h5, h6⟩ := aft_some o c f (t + 1) left t' h ha
        refine ⟨d + 1, by omega, by omega, by rw [shift_no _ _ _ _ hop]; exact h3, fun hz => absurd hz h0, fun hp => ?_, by rw [bef_no _ _ _ _ _ hop]; exact h6⟩
        obtain ⟨d', e1, e2⟩ := h5 hp
        exact ⟨d' + 1, by omega, by rw [show t + ((d' + 1 : Nat) : Int) = t + 1 + d' by omega]; exact e2⟩
      · rw [aft_yes _ _ _ _ _ h0 hop] at ha
        obtain ⟨d, h1, h2, h3, h4, h5, h6⟩ := aft_some o c f (t + 1) (left - 1) t' (by omega) ha
        refine ⟨d + 1, by omega, by omega, by rw [shift_yes _ _ _ _ hop]; omega, fun hz => absurd hz h0, fun hp => ?_, by rw [bef_yes _ _ _ _ _ h0 hop]; exact h6⟩
        by_cases hl : left - 1 = 0
        · have := h4 hl
          subst this
          exact ⟨0, rfl, by rw [show t + ((0 : Nat) : Int) = t by omega]; exact hop⟩
        · obtain ⟨d', e1, e2⟩ := h5 (by omega)
          exact ⟨d' + 1, by omega, by rw [show t + ((d' + 1 : Nat) : Int) = t + 1 + d' by omega]; exact e2⟩
theorem aft_none (o c : List (Int × Int)) : ∀ (f : Nat) (t left : Int), 0 ≤ left → aftB o c f t left = none → cntB o c t f < left
  | 0, t, left, h, ha => by
    by_cases h0 : left = 0
    · rw [aft_zero _ _ _ _ _ h0] at ha; cases ha
    · show (0 : Int) < left; omega
  | f + 1, t, left, h, ha => by
    by_cases h0 : left = 0
    · rw [aft_zero _ _ _ _ _ h0] at ha; cases ha
    · cases hop : openB o c t
      · rw [aft_no _ _ _ _ _ h0 hop] at ha
        rw [shift_no _ _ _ _ hop]
        exact aft_none o c f (t + 1) left h ha
      · rw [aft_yes _ _ _ _ _ h0 hop] at ha
        rw [shift_yes _ _ _ _ hop]
        have := aft_none o c f (t + 1) (left - 1) (by omega) ha
        omega

/-- what the law asks of the time before one more -/
theorem before_law (o c : List (Int × Int)) (a m : Int) (hw : weekB o c = true) (ha : 0 ≤ a) (ha2 : a ≤ 20000) (hm : 0 ≤ m) :
    ∃ u, beforeB o c a m = some u ∧ u = befB o c (20000 - a).toNat a m ∧ a ≤ u ∧ u ≤ 20000 ∧ hoursB o c a u ≤ m ∧ (u < 20000 → hoursB o c a (u + 1) = m + 1) := by
  obtain ⟨d, h1, h2, h3, h4⟩ := bef_facts o c (20000 - a).toNat a m hm
  refine ⟨a + d, by rw [beforeB, if_pos ⟨hw, by simp [timeB]; omega, hm⟩, h2], h2.symm, by omega, by omega, ?_, fun hu => ?_⟩
  · rw [hours_eq o c a (a + d) hw ha (by omega) (by omega), show (a + d - a).toNat = d by omega]; exact h3
  · rw [hours_eq o c a (a + d + 1) hw ha (by omega) (by omega), show (a + d + 1 - a).toNat = d + 1 by omega]; exact h4 (by omega)
theorem after_law (o c : List (Int × Int)) (a m t : Int) (hw : weekB o c = true) (ha : 0 ≤ a) (ha2 : a ≤ 20000) (hm : 0 ≤ m) (h : afterB o c a m = some t) :
    a ≤ t ∧ t ≤ befB o c (20000 - a).toNat a m ∧ hoursB o c a t = m ∧ t ≤ 20000 ∧ (m = 0 ∧ t = a ∨ 0 < m ∧ isOpenB o c (t - 1) = true) := by
  rw [afterB, if_pos ⟨hw, by simp [timeB]; omega, hm⟩] at h
  obtain ⟨d, h1, h2, h3, h4, h5, h6⟩ := aft_some o c _ a m t hm h
  refine ⟨by omega, h6, ?_, by omega, ?_⟩
  · rw [hours_eq o c a t hw ha (by omega) (by omega), show (t - a).toNat = d by omega]; exact h3
  · by_cases hz : m = 0
    · have := h4 hz
      exact .inl ⟨hz, by omega⟩
    · obtain ⟨d', e1, e2⟩ := h5 (by omega)
      refine .inr ⟨by omega, ?_⟩
      rw [isOpen_in o c (t - 1) hw (by omega) (by omega), show t - 1 = a + d' by omega]
      exact e2
theorem after_none (o c : List (Int × Int)) (a m : Int) (hw : weekB o c = true) (ha : 0 ≤ a) (ha2 : a ≤ 20000) (hm : 0 ≤ m) (h : afterB o c a m = none) : hoursB o c a 20000 < m := by
  rw [afterB, if_pos ⟨hw, by simp [timeB]; omega, hm⟩] at h
  rw [hours_eq o c a 20000 hw ha ha2 (by omega)]
  exact aft_none o c _ a m hm h
end Go.Proofs.Ytpooffekjealhaa
