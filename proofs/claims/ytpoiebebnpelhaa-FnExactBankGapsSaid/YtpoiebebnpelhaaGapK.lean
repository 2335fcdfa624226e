/- Chapter 2: the program's Cleared. -/
import Derived.Test.YtpoiebebnpelhaaGapJ
namespace Go.Proofs.Ytpoiebebnpelhaa
open Go.RowKit
set_option linter.unusedVariables false

noncomputable def clrO (z : Int) (F : List Int) (L : List Bx) : List Bx := by
  classical exact if ColOk z F L then clrL F L else L
theorem clrO_ok {z : Int} {F : List Int} {L : List Bx} (h : ColOk z F L) : clrO z F L = clrL F L := by unfold clrO; exact if_pos h
theorem clrO_no {z : Int} {F : List Int} {L : List Bx} (h : ¬ ColOk z F L) : clrO z F L = L := by unfold clrO; exact if_neg h
theorem clrC_len (F : List Int) : ∀ (L : List Bx) (cur : Option Bx), (clrC F cur L).length ≤ cur.toList.length + L.length
  | [], cur => by simp [clrC]
  | x :: r, cur => by
    unfold clrC
    split
    · split
      · have := clrC_len F r (some x); simp at this ⊢; omega
      · split
        · have := clrC_len F r (some x); simp at this ⊢; omega
        · rename_i b _; have := clrC_len F r (some ⟨b.low, b.size + x.size, b.par, b.jam⟩); simp at this ⊢; omega
    · have := clrC_len F r none; simp at this ⊢; omega
theorem clrO_len (z : Int) (F : List Int) (L : List Bx) : (clrO z F L).length ≤ L.length := by
  by_cases h : ColOk z F L
  · rw [clrO_ok h]; have := clrC_len F L none; simpa [clrL] using this
  · rw [clrO_no h]; exact Nat.le_refl _
def clrR (z : Int) (F : List Int) (L : List Bx) (z' : Int) (F' : List Int) (L' : List Bx) : Prop := z' = z ∧ F' = F ∧ L' = clrO z F L
theorem clr_det {z : Int} {F : List Int} {L : List Bx} {z1 z2 : Int} {F1 F2 : List Int} {L1 L2 : List Bx} (h1 : clrR z F L z1 F1 L1) (h2 : clrR z F L z2 F2 L2) : z1 = z2 ∧ F1 = F2 ∧ L1 = L2 :=
  ⟨h1.1.trans h2.1.symm, h1.2.1.trans h2.2.1.symm, h1.2.2.trans h2.2.2.symm⟩
/-- the answer is a column of the call's own, of which R holds -/
def ColAnsN (R : Int → List Int → List Bx → Prop) (w : World) (e : Ending) (w' : World) : Prop :=
  ∃ z' F' L' A2 A3 n2 n3, e = .returned (.agg #[.int .i64 z', .slice A2 F'.length n2, .slice A3 L'.length n3]) ∧ R z' F' L' ∧ F'.length ≤ 1048576 ∧ L'.length ≤ 1048576 ∧ OR w' w.heap.size 3 A2 (intV F') ∧ OR w' w.heap.size 72 A3 (boxV L') ∧ Below w.heap.size w w'

end Go.Proofs.Ytpoiebebnpelhaa
