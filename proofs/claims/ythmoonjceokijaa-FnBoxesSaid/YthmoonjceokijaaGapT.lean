/- Chapter 2: a parcel that was put in is taken out again: plain facts. -/
import Derived.Test.YthmoonjceokijaaGapQ
namespace Go.Proofs.Ythmoonjceokijaa
open Go.RowKit
set_option linter.unusedVariables false

theorem take_new {z : Int} {F : List Int} {L : List Bx} {p : Int} {nb : Bx} (hok : ColOk z F L) (hm : nb ∈ L) (hp : nb.par = p) (h1 : 0 < p) (hj : nb.jam = false) (hu : ∀ b ∈ L, b.par = p → b = nb) {z' : Int} {F' : List Int} {L' : List Bx} {q : Bool} (h : takeR z F L p z' F' L' q) :
    z' = z ∧ F' = F ∧ q = true ∧ ∃ j : Nat, L[j]? = some nb ∧ L' = L.set j ⟨nb.low, nb.size, 0, nb.jam⟩ := by
  obtain ⟨rfl, rfl, h⟩ := h
  refine ⟨rfl, rfl, ?_⟩
  rcases h with ⟨j, x, ⟨_, hi, hx, hjx⟩, rfl, rfl⟩ | ⟨hn, _, _⟩
  · rcases fIdx_cases (hasP0 p) L 0 with ⟨h2, _⟩ | ⟨j', x', h2, h3, h4⟩
    · omega
    · have : j = j' := by omega
      subst this
      have hxx : x = x' := by have := hx.symm.trans h3; injection this
      subst hxx
      have hxp : x.par = p := by simp [hasP0] at h4; exact h4.1
      obtain rfl := hu x (List.mem_of_getElem? hx) hxp
      exact ⟨rfl, j, hx, rfl⟩
  · exfalso
    rcases fIdx_cases (hasP0 p) L 0 with ⟨_, h3⟩ | ⟨j', x', h2, h3, h4⟩
    · have := h3 nb hm
      simp [hasP0, hp, h1] at this
    · have hxp : x'.par = p := by simp [hasP0] at h4; exact h4.1
      obtain rfl := hu x' (List.mem_of_getElem? h3) hxp
      exact hn j' x' ⟨hok, by rw [h2]; simp, h3, hj⟩
theorem take_none {z : Int} {F : List Int} {L : List Bx} {p : Int} (hu : ∀ b ∈ L, b.par ≠ p) {z' : Int} {F' : List Int} {L' : List Bx} {q : Bool} (h : takeR z F L p z' F' L' q) : z' = z ∧ F' = F ∧ q = false ∧ L' = L := by
  obtain ⟨rfl, rfl, h⟩ := h
  refine ⟨rfl, rfl, ?_⟩
  rcases h with ⟨j, x, ⟨_, hi, hx, hjx⟩, _, _⟩ | ⟨_, rfl, rfl⟩
  · exfalso
    rcases fIdx_cases (hasP0 p) L 0 with ⟨h2, _⟩ | ⟨j', x', h2, h3, h4⟩
    · omega
    · simp [hasP0] at h4
      exact hu x' (List.mem_of_getElem? h3) h4.1
  · exact ⟨rfl, rfl⟩
/-- all that the law asks of a parcel that was put in and taken out -/
structure BoxF (z : Int) (F : List Int) (L L1 L2 : List Bx) (p size low : Int) : Prop where
  ok1 : ColOk z F L1
  ok2 : ColOk z F L2
  fit : ∃ g, fitV (gapsO z F L) size = (g, true) ∧ g.low = low ∧ size ≤ g.size
  r1 : gsum (gapsO z F L1) = gsum (gapsO z F L) - size
  r2 : gsum (gapsO z F L2) = gsum (gapsO z F L)
theorem box_facts {z : Int} {F : List Int} {L L1 : List Bx} {p size low : Int} {z1 : Int} {F1 : List Int} (h : putR z F L p size z1 F1 L1 low true) :
    z1 = z ∧ F1 = F ∧ 0 < p ∧ ∃ nb : Bx, ColOk z F L1 ∧ nb ∈ L1 ∧ nb.par = p ∧ nb.jam = false ∧ (∀ b ∈ L1, b.par = p → b = nb) ∧
      ∀ (j : Nat) (L2 : List Bx), L1[j]? = some nb → L2 = L1.set j ⟨nb.low, nb.size, 0, nb.jam⟩ → (∀ b ∈ L2, b.par ≠ p) ∧ BoxF z F L L1 L2 p size low := by
  obtain ⟨rfl, rfl, h⟩ := h
  rcases h with ⟨hc, rfl, hi, _⟩ | ⟨_, _, _, h⟩
  rotate_left
  · cases h
  have hp := hc.2.1
  obtain ⟨g, hg, hok, hs1, hs2, _, ho, hz, hm, hu, _⟩ := col_put hc
  rw [hg] at hi ⊢
  dsimp only at hi ⊢
  refine ⟨rfl, rfl, by omega, _, ho, hm, rfl, rfl, hu, fun j L2 hj hL2 => ?_⟩
  subst hL2
  have ho2 := col_zero ho hj
  refine ⟨col_only ho hj rfl (by omega), ho, ho2, ⟨g, hg, hi.symm, hs2⟩, ?_, ?_⟩
  · rw [gapsO_ok ho, gapsO_ok hok, gaps_open _ _ _ _ (Nat.le_refl _), gaps_open _ _ _ _ (Nat.le_refl _), hz]
  · rw [gapsO_ok ho2, gapsO_ok hok, gaps_open _ _ _ _ (Nat.le_refl _), gaps_open _ _ _ _ (Nat.le_refl _)]
    have := open_zero hj (show (0 : Int) < p by omega) rfl
    rw [this, hz]; dsimp only; omega
theorem box_no {z : Int} {F : List Int} {L L1 : List Bx} {p size low : Int} {z1 : Int} {F1 : List Int} (h : putR z F L p size z1 F1 L1 low false) : z1 = z ∧ F1 = F ∧ L1 = L ∧ low = -1 := by
  obtain ⟨rfl, rfl, h⟩ := h
  rcases h with ⟨_, _, _, h⟩ | ⟨_, rfl, rfl, _⟩
  · cases h
  · exact ⟨rfl, rfl, rfl, rfl⟩
end Go.Proofs.Ythmoonjceokijaa
