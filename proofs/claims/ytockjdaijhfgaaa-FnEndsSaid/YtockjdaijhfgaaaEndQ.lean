/- Chapter 5: when a right ends, and who has it: plain facts for the law. -/
import Derived.Test.YtockjdaijhfgaaaEndP
import Derived.Test.YtockjdaijhfgaaaGraZ
import Derived.Test.YtockjdaijhfgaaaHas
namespace Go.Proofs.Ytockjdaijhfgaaa
open Go.RowKit
set_option linter.unusedVariables false
theorem endV_spec {l : List Gr} {owner who p now : Int} (h : mayB l owner who p now = true) : IsEnd l owner who p now (endV l owner who p now) := by
  have hn := good_time (may_good h)
  cases hf : (List.range 20002).find? (fun i : Nat => !mayB l owner who p (now + 1 + (i : Int))) with
  | none =>
    rw [List.find?_eq_none] at hf
    have := hf 20001 (by simp)
    rw [may_late l owner who p (by omega)] at this
    simp at this
  | some i =>
    obtain ⟨_, h2, h3⟩ := (find_range _ 20002 i).1 hf
    have he : endV l owner who p now = now + 1 + (i : Int) := by unfold endV; rw [h, if_pos rfl, hf]
    rw [he]
    refine ⟨by omega, by simpa using h2, fun t ht1 ht2 => ?_⟩
    obtain ⟨j, hj⟩ := Int.eq_ofNat_of_zero_le (show 0 ≤ t - now - 1 by omega)
    have := h3 j (by omega)
    rw [show now + 1 + (j : Int) = t by omega] at this
    simpa using this
theorem hold_mem {l : List Gr} {owner p t x : Int} : x ∈ holdersL l owner p t ↔ (1 ≤ x ∧ x ≤ 40) ∧ mayB l owner x p t = true := by
  unfold holdersL holdN; rw [List.mem_filter]; simp only [List.mem_map, List.mem_range]
  constructor
  · rintro ⟨⟨i, hi, rfl⟩, h⟩; exact ⟨by omega, h⟩
  · rintro ⟨h1, h⟩; exact ⟨⟨(x - 1).toNat, by omega, by omega⟩, h⟩
theorem hold_asc (l : List Gr) (owner p t : Int) : (holdersL l owner p t).Pairwise (fun x y => x < y) := by
  unfold holdersL holdN; refine List.Pairwise.filter _ ?_; rw [List.pairwise_map]; exact List.pairwise_lt_range.imp (fun h => by omega)
theorem hold_next {l : List Gr} {owner p t : Int} {n m : Nat} {x y : Int} (hm : n < m) (hx : (holdersL l owner p t)[m]? = some x) (hy : (holdersL l owner p t)[n]? = some y) : y < x := by
  obtain ⟨h1, rfl⟩ := List.getElem?_eq_some_iff.1 hx
  obtain ⟨h2, rfl⟩ := List.getElem?_eq_some_iff.1 hy
  exact (List.pairwise_iff_getElem.1 (hold_asc l owner p t)) n m h2 h1 hm
theorem hold_has {l : List Gr} {owner who p t : Int} : hasB (holdersL l owner p t) who = mayB l owner who p t := by
  cases hm : mayB l owner who p t
  · unfold hasB; rw [List.any_eq_false]
    intro x hx he
    have : x = who := by simpa using he
    subst this
    rw [(hold_mem.1 hx).2] at hm; cases hm
  · have hg := may_good hm
    simp only [goodB, Bool.and_eq_true] at hg
    unfold hasB; rw [List.any_eq_true]
    exact ⟨who, hold_mem.2 ⟨inR_iff.1 hg.1.1.2, hm⟩, by simp⟩
theorem hold_len (l : List Gr) (owner p t : Int) : (holdersL l owner p t).length ≤ 40 := holdN_len l owner p t 40
end Go.Proofs.Ytockjdaijhfgaaa
