/- Chapter 2: contracts of SetJam, the model's and the program's. -/
import Derived.Test.YthmoonjceokijaaColW
namespace Go.Proofs.Ythmoonjceokijaa
open Go.RowKit
set_option linter.unusedVariables false

def cov (u : Int) (x : Bx) : Bool := inB u x.low (x.low + x.size - 1)
def blw (u : Int) (x : Bx) : Bool := decide (u < x.low + x.size)
theorem cov_eq {L : List Bx} (hb : BoxesTo L L.length) (u : Int) : ∀ (d k : Nat), k + d = L.length → lowAt L k ≤ u → fIdx (blw u) (L.drop k) k = fIdx (cov u) (L.drop k) k
  | 0, k, hk, _ => by rw [List.drop_of_length_le (by omega)]; rfl
  | d + 1, k, hk, hu => by
    have hx : L[k]? = some L[k] := List.getElem?_eq_getElem (by omega)
    have hbk := hb k _ (by omega) hx
    have hs := lowAt_succ hx
    rw [fIdx_drop _ _ _ _ hx, fIdx_drop _ _ _ _ hx]
    unfold BoxAt at hbk
    by_cases h : u < L[k].low + L[k].size
    · have h1 : blw u L[k] = true := by simp [blw, h]
      have h2 : cov u L[k] = true := by simp [cov, inB]; omega
      rw [if_pos h1, if_pos h2]
    · have h1 : ¬ blw u L[k] = true := by simp [blw]; omega
      have h2 : ¬ cov u L[k] = true := by simp [cov, inB]; omega
      rw [if_neg h1, if_neg h2]
      exact cov_eq hb u d (k + 1) (by omega) (by omega)
theorem cov_some {L : List Bx} (hb : BoxesTo L L.length) (u : Int) (hu : u < lowAt L L.length) : ∀ (d k : Nat), k + d = L.length → lowAt L k ≤ u → 0 ≤ fIdx (cov u) (L.drop k) k
  | 0, k, hk, h => by have : k = L.length := by omega
                      subst this; omega
  | d + 1, k, hk, h => by
    have hx : L[k]? = some L[k] := List.getElem?_eq_getElem (by omega)
    have hbk := hb k _ (by omega) hx
    have hs := lowAt_succ hx
    rw [fIdx_drop _ _ _ _ hx]
    unfold BoxAt at hbk
    by_cases h' : u < L[k].low + L[k].size
    · rw [if_pos (by simp [cov, inB]; omega)]; omega
    · rw [if_neg (by simp [cov, inB]; omega)]
      exact cov_some hb u hu d (k + 1) (by omega) (by omega)
theorem cov_none {L : List Bx} (hb : BoxesTo L L.length) (u : Int) (hu : u < 0 ∨ lowAt L L.length ≤ u) : fIdx (cov u) L 0 = -1 := by
  rcases fIdx_cases (cov u) L 0 with ⟨h, _⟩ | ⟨j, x, _, hx, hc⟩
  · exact h
  · have hl : j < L.length := (List.getElem?_eq_some_iff.1 hx).1
    have hbj := hb j x hl hx
    have hsz := size_le hb rfl hx
    have hs := lowAt_succ hx
    unfold BoxAt at hbj
    simp [cov, inB] at hc
    omega
def jamR (z : Int) (F : List Int) (L : List Bx) (u : Int) (q : Bool) (z' : Int) (F' : List Int) (L' : List Bx) (b : Bool) : Prop :=
  z' = z ∧ F' = F ∧ ((∃ (j : Nat) (x : Bx), (ColOk z F L ∧ fIdx (cov u) L 0 = (j : Int) ∧ L[j]? = some x) ∧ b = true ∧ L' = L.set j ⟨x.low, x.size, x.par, q⟩) ∨
    ((∀ (j : Nat) (x : Bx), ¬ (ColOk z F L ∧ fIdx (cov u) L 0 = (j : Int) ∧ L[j]? = some x)) ∧ b = false ∧ L' = L))
theorem jam_det {z : Int} {F : List Int} {L : List Bx} {u : Int} {q : Bool} {z1 z2 : Int} {F1 F2 : List Int} {L1 L2 : List Bx} {b1 b2 : Bool} (h1 : jamR z F L u q z1 F1 L1 b1) (h2 : jamR z F L u q z2 F2 L2 b2) : z1 = z2 ∧ F1 = F2 ∧ L1 = L2 ∧ b1 = b2 := by
  obtain ⟨rfl, rfl, h1⟩ := h1
  obtain ⟨rfl, rfl, h2⟩ := h2
  rcases h1 with ⟨j, x, hx, rfl, rfl⟩ | ⟨hn, rfl, rfl⟩
  · rcases h2 with ⟨j', x', hx', rfl, rfl⟩ | ⟨hn', rfl, rfl⟩
    · have : j = j' := by have := hx.2.1.symm.trans hx'.2.1; omega
      subst this
      have : x = x' := by have := hx.2.2.symm.trans hx'.2.2; injection this
      subst this
      exact ⟨rfl, rfl, rfl, rfl⟩
    · exact absurd hx (hn' j x)
  · rcases h2 with ⟨j', x', hx', rfl, rfl⟩ | ⟨hn', rfl, rfl⟩
    · exact absurd hx' (hn j' x')
    · exact ⟨rfl, rfl, rfl, rfl⟩
theorem jam_no {z : Int} {F : List Int} {L : List Bx} {u : Int} {q : Bool} (h : ∀ (j : Nat) (x : Bx), ¬ (ColOk z F L ∧ fIdx (cov u) L 0 = (j : Int) ∧ L[j]? = some x)) : jamR z F L u q z F L false := ⟨rfl, rfl, .inr ⟨h, rfl, rfl⟩⟩
theorem jam_yes {z : Int} {F : List Int} {L : List Bx} {u : Int} {q : Bool} {j : Nat} {x : Bx} (h0 : ColOk z F L) (h1 : fIdx (cov u) L 0 = (j : Int)) (h2 : L[j]? = some x) : jamR z F L u q z F (L.set j ⟨x.low, x.size, x.par, q⟩) true := ⟨rfl, rfl, .inl ⟨j, x, ⟨h0, h1, h2⟩, rfl, rfl⟩⟩

theorem box_bd {z : Int} {F : List Int} {L : List Bx} (h : ColOk z F L) : ∀ x ∈ L, 0 ≤ x.low ∧ x.low ≤ 24 ∧ 1 ≤ x.size ∧ x.size ≤ 24 := fun x hx => by
  obtain ⟨j, hj⟩ := List.getElem?_of_mem hx
  have hl : j < L.length := (List.getElem?_eq_some_iff.1 hj).1
  have h1 := h.box j x hl hj
  have h2 := size_le h.box h.top hj
  have h3 := h.fix.hi
  have h4 := lowAt_succ hj
  unfold BoxAt at h1
  omega
end Go.Proofs.Ythmoonjceokijaa
