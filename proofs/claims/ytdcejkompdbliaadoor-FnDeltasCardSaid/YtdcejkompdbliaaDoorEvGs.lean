/- Chapter 8: what AddEvent asks of a list: the greatest number of a node, the greatest stamp, where a node's events end (gen_evgs.py). -/
import Derived.Test.YtdcejkompdbliaaDoorEvG
import Derived.Test.YtdcejkompdbliaaDoorEvA
namespace Go.Proofs.YtdcejkompdbliaaDoor
open Go.RowKit
set_option linter.unusedVariables false
theorem jrn_two {l : List Ev} (h : jrnB l = true) {i k : Nat} {x y : Ev} (hik : i < k) (hx : l[i]? = some x) (hy : l[k]? = some y) : x.nod < y.nod ∨ (x.nod = y.nod ∧ x.seq < y.seq ∧ x.stm < y.stm) := by
  obtain ⟨hi, rfl⟩ := List.getElem?_eq_some_iff.1 hx
  obtain ⟨hk, rfl⟩ := List.getElem?_eq_some_iff.1 hy
  exact folB_iff.1 ((List.pairwise_iff_getElem.1 (jrn_pair h)) i k hi hk hik)
theorem seqK_mem (l : List Ev) (nd : Int) : ∀ k, seqK l nd k = 0 ∨ ∃ i x, i < k ∧ l[i]? = some x ∧ x.nod = nd ∧ x.seq = seqK l nd k
  | 0 => .inl (by simp [seqK])
  | k + 1 => by
    cases hx : l[k]? with
    | none =>
      have e : seqK l nd (k + 1) = seqK l nd k := by unfold seqK; rw [List.take_add_one, hx]; simp
      rw [e]
      rcases seqK_mem l nd k with h | ⟨i, x, hi, h⟩
      · exact .inl h
      · exact .inr ⟨i, x, by omega, h⟩
    | some x =>
      by_cases hn : x.nod = nd
      · exact .inr ⟨k, x, by omega, hx, hn, by rw [seqK_succ hx, if_pos hn]⟩
      · rw [seqK_succ hx, if_neg hn]
        rcases seqK_mem l nd k with h | ⟨i, y, hi, h⟩
        · exact .inl h
        · exact .inr ⟨i, y, by omega, h⟩
theorem seqK_lt {l : List Ev} (h : jrnB l = true) {nd : Int} {k : Nat} {x : Ev} (hx : l[k]? = some x) (hn : x.nod = nd) : seqK l nd k < x.seq := by
  rcases seqK_mem l nd k with h0 | ⟨i, y, hi, hy, hyn, hys⟩
  · rw [h0]; have := (evB_facts (jrn_at h hx)).2.1; omega
  · have := jrn_two h hi hy hx; omega
theorem atK_full {l : List Ev} {nd : Int} : ∀ {k : Nat}, k ≤ l.length → (∀ i x, i < k → l[i]? = some x → x.nod ≤ nd) → atK l nd k = k
  | 0, _, _ => rfl
  | k + 1, hk, h => by
    have hx := List.getElem?_eq_getElem (show k < l.length by omega)
    rw [atK_succ hx, if_pos (h k _ (by omega) hx)]
theorem atK_stop {l : List Ev} {nd : Int} {k : Nat} (hk : k ≤ l.length) (h : ∀ i x, i < k → l[i]? = some x → x.nod ≤ nd) (h2 : ∀ i x, k ≤ i → l[i]? = some x → nd < x.nod) : ∀ n, k + n ≤ l.length → atK l nd (k + n) = k
  | 0, _ => atK_full hk h
  | n + 1, hn => by
    have hx := List.getElem?_eq_getElem (show k + n < l.length by omega)
    rw [← Nat.add_assoc, atK_succ hx, if_neg (by have := h2 (k + n) _ (by omega) hx; omega)]
    exact atK_stop hk h h2 n (by omega)
theorem atK_at {l : List Ev} (hj : jrnB l = true) {nd : Int} {k : Nat} {x : Ev} (hx : l[k]? = some x) (h : ∀ i x, i < k → l[i]? = some x → x.nod ≤ nd) (hn : nd < x.nod) : atK l nd l.length = k := by
  have hk := (List.getElem?_eq_some_iff.1 hx).1
  have := atK_stop (nd := nd) (k := k) (by omega) h (fun i y hi hy => by
    rcases Nat.lt_or_ge k i with h1 | h1
    · have := jrn_two hj h1 hx hy; omega
    · have : i = k := by omega
      subst this; rw [hx] at hy; injection hy with hy; subst hy; exact hn) (l.length - k) (by omega)
  rwa [show k + (l.length - k) = l.length by omega] at this

end Go.Proofs.YtdcejkompdbliaaDoor
