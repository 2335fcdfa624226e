/- Chapter 6, plain: what the law on bills asks: the cheapest terms are the first of those with the least bill. -/
import Derived.Test.YtfkhhefphbhppaaFeeP
namespace Go.Proofs.Ytfkhhefphbhppaa
open Go.RowKit
set_option linter.unusedVariables false
/-- among the first i terms b is the first with the least bill m, or none has a bill -/
def BestAt (o c : List (Int × Int)) (L : List St) (T : List Tm) (i : Nat) (b m : Int) : Prop :=
  (b = -1 ∧ ∀ (j : Nat) (t : Tm), j < i → T[j]? = some t → billB o c t L = none) ∨
  (∃ (n : Nat) (t : Tm), b = (n : Int) ∧ n < i ∧ T[n]? = some t ∧ billB o c t L = some m ∧ ∀ (j : Nat) (u : Tm) (y : Int), j < i → T[j]? = some u → billB o c u L = some y → m ≤ y ∧ (m = y → n ≤ j))
section
variable {o c : List (Int × Int)} {L : List St} {T : List Tm}
theorem best_none {i : Nat} {t : Tm} {b m : Int} (ht : T[i]? = some t) (h : BestAt o c L T i b m) (hq : billB o c t L = none) : BestAt o c L T (i + 1) b m := by
  rcases h with ⟨h1, h2⟩ | ⟨n, t', h1, h2, h3, h4, h5⟩
  · refine .inl ⟨h1, fun j u hj hu => ?_⟩
    by_cases e : j = i
    · subst e; rw [ht] at hu; injection hu with hu; subst hu; exact hq
    · exact h2 j u (by omega) hu
  · refine .inr ⟨n, t', h1, by omega, h3, h4, fun j u y hj hu hy => ?_⟩
    by_cases e : j = i
    · subst e; rw [ht] at hu; injection hu with hu; subst hu; rw [hq] at hy; cases hy
    · exact h5 j u y (by omega) hu hy
theorem best_put {i : Nat} {t : Tm} {b m x : Int} (ht : T[i]? = some t) (h : BestAt o c L T i b m) (hq : billB o c t L = some x) (hc : b < 0 ∨ x < m) : BestAt o c L T (i + 1) (i : Int) x := by
  refine .inr ⟨i, t, rfl, by omega, ht, hq, fun j u y hj hu hy => ?_⟩
  by_cases e : j = i
  · subst e; rw [ht] at hu; injection hu with hu; subst hu; rw [hq] at hy; injection hy with hy
    exact ⟨by omega, fun _ => Nat.le_refl _⟩
  · rcases h with ⟨h1, h2⟩ | ⟨n, t', h1, h2, h3, h4, h5⟩
    · rw [h2 j u (by omega) hu] at hy; cases hy
    · have := h5 j u y (by omega) hu hy
      omega
theorem best_keep {i : Nat} {t : Tm} {b m x : Int} (ht : T[i]? = some t) (h : BestAt o c L T i b m) (hq : billB o c t L = some x) (hc : ¬ (b < 0 ∨ x < m)) : BestAt o c L T (i + 1) b m := by
  rcases h with ⟨h1, h2⟩ | ⟨n, t', h1, h2, h3, h4, h5⟩
  · omega
  · refine .inr ⟨n, t', h1, by omega, h3, h4, fun j u y hj hu hy => ?_⟩
    by_cases e : j = i
    · subst e; rw [ht] at hu; injection hu with hu; subst hu; rw [hq] at hy; injection hy with hy
      exact ⟨by omega, fun _ => by omega⟩
    · exact h5 j u y (by omega) hu hy
theorem best_run : ∀ (r : List Tm) (i : Nat) (b m : Int), T.drop i = r → BestAt o c L T i b m → ∃ m', BestAt o c L T T.length (cheapB o c L r i b m) m'
  | [], i, b, m, hr, h => by
    have hl : T.length ≤ i := by
      have := congrArg List.length hr
      simp only [List.length_drop, List.length_nil] at this
      omega
    refine ⟨m, ?_⟩
    show BestAt o c L T T.length b m
    rcases h with ⟨h1, h2⟩ | ⟨n, t', h1, h2, h3, h4, h5⟩
    · exact .inl ⟨h1, fun j u hj hu => h2 j u (by omega) hu⟩
    · exact .inr ⟨n, t', h1, (List.getElem?_eq_some_iff.1 h3).1, h3, h4, fun j u y hj hu hy => h5 j u y (by omega) hu hy⟩
  | t :: r, i, b, m, hr, h => by
    have ht : T[i]? = some t := by
      have : (T.drop i)[0]? = T[i]? := by rw [List.getElem?_drop]; simp
      rw [← this, hr]; rfl
    have hr' : T.drop (i + 1) = r := by
      have : T.drop (i + 1) = (T.drop i).drop 1 := by rw [List.drop_drop]
      rw [this, hr]; rfl
    have hi : ((i : Int) + 1) = ((i + 1 : Nat) : Int) := by omega
    unfold cheapB
    cases hq : billB o c t L with
    | none => simp only []; rw [hi]; exact best_run r (i + 1) b m hr' (best_none ht h hq)
    | some x =>
      simp only []
      split
      · rename_i hc; rw [hi]; exact best_run r (i + 1) (i : Int) x hr' (best_put ht h hq hc)
      · rename_i hc; rw [hi]; exact best_run r (i + 1) b m hr' (best_keep ht h hq hc)
/-- the cheapest terms -/
theorem best_is (hT : (T.length : Int) ≤ 20) : ∃ m, BestAt o c L T T.length (bestB o c T L) m := by
  unfold bestB
  rw [if_pos hT]
  exact best_run T 0 (-1) 0 (by simp) (.inl ⟨rfl, fun j u hj _ => absurd hj (by omega)⟩)
theorem best_range (hT : (T.length : Int) ≤ 20) : -1 ≤ bestB o c T L ∧ bestB o c T L < T.length := by
  obtain ⟨m, h⟩ := best_is (o := o) (c := c) (L := L) hT
  rcases h with ⟨h1, _⟩ | ⟨n, t', h1, h2, _⟩ <;> omega
/-- what the law asks of terms that have a bill -/
theorem best_law (hT : (T.length : Int) ≤ 20) {i : Nat} {t : Tm} {y : Int} (ht : T[i]? = some t) (hy : billB o c t L = some y) :
    ∃ (n : Nat) (u : Tm) (z : Int), bestB o c T L = (n : Int) ∧ n < T.length ∧ T[n]? = some u ∧ billB o c u L = some z ∧ z ≤ y ∧ (z = y → n ≤ i) := by
  obtain ⟨m, h⟩ := best_is (o := o) (c := c) (L := L) hT
  have hi := (List.getElem?_eq_some_iff.1 ht).1
  rcases h with ⟨_, h2⟩ | ⟨n, u, h1, h2, h3, h4, h5⟩
  · rw [h2 i t hi ht] at hy; cases hy
  · have := h5 i t y hi ht hy
    exact ⟨n, u, m, h1, h2, h3, h4, this.1, this.2⟩
/-- a bill is the sum of its fees -/
theorem bill_sum {t : Tm} {y : Int} (h : billB o c t L = some y) : sumB o c t L 0 = some y := by
  unfold billB at h
  split at h
  · exact h
  · cases h
theorem sum_next {t : Tm} {k : Nat} {x : St} {s y : Int} (hx : L[k]? = some x) (h : sumB o c t (L.drop k) s = some y) :
    feeB o c t x.size x.start x.stop x.ext ≠ -1 ∧ sumB o c t (L.drop (k + 1)) (s + feeB o c t x.size x.start x.stop x.ext) = some y := by
  by_cases hf : feeB o c t x.size x.start x.stop x.ext = -1
  · rw [sum_no hx s hf] at h; cases h
  · exact ⟨hf, (sum_yes hx s hf).symm.trans h⟩
end
end Go.Proofs.Ytfkhhefphbhppaa
