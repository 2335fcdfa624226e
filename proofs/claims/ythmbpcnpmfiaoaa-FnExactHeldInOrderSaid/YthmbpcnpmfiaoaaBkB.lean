/- Chapter 2: the program's BankFit, MostOf. -/
import Derived.Test.YthmbpcnpmfiaoaaBkA
import Derived.IntWalk
namespace Go.Proofs.Ythmbpcnpmfiaoaa
open Go.RowKit
set_option linter.unusedVariables false

/-- how many boxes of a size the gaps take -/
def sumQ (size : Int) (G : List Gp) : Int := (G.map fun g => g.size / size).sum
def mostV (size : Int) (G : List Gp) : Int := if size < 1 then 0 else sumQ size G
theorem sumQ_succ {size : Int} {G : List Gp} {k : Nat} {g : Gp} (h : G[k]? = some g) : sumQ size (G.take (k + 1)) = sumQ size (G.take k) + g.size / size := by
  unfold sumQ; rw [List.take_add_one, h]; simp
theorem bgL_bd : ∀ (l : List Cl) (i : Int), (∀ x ∈ l, ColOk x.z x.F x.L) → ∀ g ∈ bgL l i, 0 ≤ g.low ∧ g.low ≤ 24 ∧ 1 ≤ g.size ∧ g.size ≤ 24
  | [], _, _, g, hg => by simp [bgL] at hg
  | x :: r, i, h, g, hg => by
    have hok := h x List.mem_cons_self
    simp only [bgL, List.mem_append] at hg
    rcases hg with hg | hg
    · rw [gapsL_num x.F 0 i x.L] at hg
      obtain ⟨g', hg', rfl⟩ := List.mem_map.1 hg
      exact gapsO_bd (z := x.z) g' (by rw [gapsO_ok hok]; exact hg')
    · exact bgL_bd r (i + 1) (fun y hy => h y (List.mem_cons_of_mem _ hy)) g hg
theorem bgO_bd {l : List Cl} : ∀ g ∈ bgO l, 0 ≤ g.low ∧ g.low ≤ 24 ∧ 1 ≤ g.size ∧ g.size ≤ 24 := fun g hg => by
  by_cases h : BankP l
  · rw [bgO_ok h] at hg; exact bgL_bd l 0 h.2.1 g hg
  · rw [bgO_no h] at hg; cases hg
theorem quo_bd {a size : Int} (h1 : 1 ≤ size) (h2 : 0 ≤ a) : 0 ≤ a / size ∧ a / size ≤ a := ⟨Int.ediv_nonneg h2 (by omega), Int.ediv_le_self _ h2⟩
theorem sumQ_bd {size : Int} (hs : 1 ≤ size) {G : List Gp} (hb : ∀ g ∈ G, 1 ≤ g.size ∧ g.size ≤ 24) : ∀ k, k ≤ G.length → 0 ≤ sumQ size (G.take k) ∧ sumQ size (G.take k) ≤ 24 * k
  | 0, _ => by simp [sumQ]
  | k + 1, hk => by
    have h := List.getElem?_eq_getElem (l := G) (i := k) (by omega)
    have ih := sumQ_bd hs hb k (by omega)
    have hg := hb _ (List.mem_of_getElem? h)
    have hq := quo_bd hs (a := (G[k]'(by omega)).size) (by omega)
    rw [sumQ_succ h]
    push_cast; omega

end Go.Proofs.Ythmbpcnpmfiaoaa
