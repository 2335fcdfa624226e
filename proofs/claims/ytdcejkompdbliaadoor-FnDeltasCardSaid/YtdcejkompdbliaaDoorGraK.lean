/- Copies of rows of Grant: slices.Clone (gen_cln.py). -/
import Derived.Test.YtdcejkompdbliaaDoorGraR
import Derived.Deep.DeepMust
import Derived.Deep.RegionHeld3
import Derived.Deep.AppendLies
import Derived.WalkSpells
import Derived.OwnWalk
import Derived.Lib.SliceRun
namespace Go.Proofs.YtdcejkompdbliaaDoor
open Go.RowKit
set_option linter.unusedVariables false

theorem addr_gr (b off i : Nat) : (Addr.mk b off none).add i = ⟨b, off + i, none⟩ := by
  unfold Addr.add
  split
  · rename_i h; subst h; rfl
  · rfl
theorem gr_news {w : World} {B : Nat} {a : Addr} {l : List Gr} (h : grL w B (some a) l) : ∀ (j : Nat) (u : Value), (grV l)[j]? = some u → w.cell? (a.add j) = some u := by
  intro j u hu
  have hj : j < 7 * l.length := by have := (List.getElem?_eq_some_iff.1 hu).1; rwa [grV_len] at this
  obtain ⟨q, r, rfl, hr⟩ : ∃ q r, j = q * 7 + r ∧ r < 7 := ⟨j / 7, j % 7, by omega, by omega⟩
  have hq : q < l.length := by omega
  have hx := List.getElem?_eq_getElem hq
  have h1 := grV_at hx
  rcases h with h | ⟨b, off, e, _, hc⟩
  · rw [h] at hq; simp at hq
  · injection e with e; subst e
    have h2 := hc q _ hx
    rw [addr_gr]
    rcases r with _ | _ | _ | _ | _ | _ | _ | r
    · rw [Nat.add_zero] at hu ⊢; rw [h1.1] at hu; rw [← hu]; exact h2.1
    · rw [h1.2.1] at hu; rw [← hu, ← Nat.add_assoc]; exact h2.2.1
    · rw [h1.2.2.1] at hu; rw [← hu, ← Nat.add_assoc]; exact h2.2.2.1
    · rw [h1.2.2.2.1] at hu; rw [← hu, ← Nat.add_assoc]; exact h2.2.2.2.1
    · rw [h1.2.2.2.2.1] at hu; rw [← hu, ← Nat.add_assoc]; exact h2.2.2.2.2.1
    · rw [h1.2.2.2.2.2.1] at hu; rw [← hu, ← Nat.add_assoc]; exact h2.2.2.2.2.2.1
    · rw [h1.2.2.2.2.2.2] at hu; rw [← hu, ← Nat.add_assoc]; exact h2.2.2.2.2.2.2
    · omega
theorem gr_none {w : World} {B : Nat} {l : List Gr} (h : grL w B none l) : l = [] := by
  rcases h with h | ⟨b, off, e, _⟩
  · exact h
  · cases e
theorem gr_one {l : List Gr} : ∀ u ∈ grV l, u.oneCell' = true := by
  intro u hu
  obtain ⟨x, _, hx⟩ := List.mem_flatMap.1 hu
  simp [grC] at hx
  rcases hx with rfl | rfl | rfl | rfl | rfl | rfl | rfl <;> rfl

end Go.Proofs.YtdcejkompdbliaaDoor
