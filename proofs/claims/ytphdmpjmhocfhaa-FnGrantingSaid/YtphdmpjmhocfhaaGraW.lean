/- Chapter 5: the walk of the model's ChainOf (gen_grw.py). -/
import Derived.Test.YtphdmpjmhocfhaaGraV
namespace Go.Proofs.Ytphdmpjmhocfhaa
open Go.RowKit
set_option linter.unusedVariables false
def ChainAns (R : Option (List Int)) (w : World) (e : Ending) (w' : World) : Prop := ∃ A' c', e = .returned (.tuple #[.slice A' (R.getD []).length c', .bool R.isSome]) ∧ OR w' w.heap.size 3 A' (intV (R.getD [])) ∧ Below w.heap.size w w'
theorem chain_no {R : Option (List Int)} (h : R = none) {w w' : World} (hb : Below w.heap.size w w') : ChainAns R w (.returned (.tuple #[.slice none 0 0, .bool false])) w' := by
  subst h; exact ⟨none, 0, rfl, .inl rfl, hb⟩
theorem chain_bad {l : List Gr} {owner who p t : Int} (h : goodB l owner who p t = false) : chainA l owner who p t = none := by unfold chainA; rw [h]; rfl
theorem perB_iff {x : Int} : perB x = true ↔ 1 ≤ x ∧ x ≤ 40 := inR_iff
theorem ch_hit {l : List Gr} {p t who x : Int} {h k : Nat} {g : Gr} (hg : l[k]? = some g) (hc : chP l p t who h x g = true) (hno : ∀ j y, j < k → l[j]? = some y → chP l p t who h x y = false) : chainL l p t who (h + 1) x = (k : Int) :: chainL l p t who h g.to := by
  obtain ⟨hk, rfl⟩ := List.getElem?_eq_some_iff.1 hg
  have : l.findIdx? (chP l p t who h x) = some k := by
    rw [List.findIdx?_eq_some_iff_getElem]
    exact ⟨hk, hc, fun j hj => by have := hno j _ hj (List.getElem?_eq_getElem (by omega)); simp [this]⟩
  simp only [chainL, this, hg, Option.getD_some]
theorem ch_miss {l : List Gr} {p t who x : Int} {h : Nat} (hno : ∀ j y, j < l.length → l[j]? = some y → chP l p t who h x y = false) : chainL l p t who (h + 1) x = chainL l p t who h x := by
  have : l.findIdx? (chP l p t who h x) = none := by
    rw [List.findIdx?_eq_none_iff]
    intro y hy
    obtain ⟨j, hj, rfl⟩ := List.getElem_of_mem hy
    exact hno j _ hj (List.getElem?_eq_getElem hj)
  simp only [chainL, this]
theorem own_ne {w : World} {base : Nat} {e t : TypeId} {size n b : Nat} {v : Value} {xs : List Value} {cs : Array Value} (h : w.ownsRow base e size v n xs) (hb : v.ownBlock = some b) (hk : Has w b t cs) (hne : e ≠ t) : False := by
  obtain ⟨_, cur, hc⟩ := own_has h b hb
  have := hc.symm.trans hk
  injection this with this; injection this with _ this _
  exact hne this
theorem no_next {P : Gr → Bool} {l : List Gr} {k : Nat} {g : Gr} (hg : l[k]? = some g) (h : ∀ j y, j < k → l[j]? = some y → P y = false) (hq : P g = false) : ∀ j y, j < k + 1 → l[j]? = some y → P y = false := fun j y hj hy => by
  by_cases e : j = k
  · subst e; rw [hg] at hy; injection hy with hy; subst hy; exact hq
  · exact h j y (by omega) hy

end Go.Proofs.Ytphdmpjmhocfhaa
