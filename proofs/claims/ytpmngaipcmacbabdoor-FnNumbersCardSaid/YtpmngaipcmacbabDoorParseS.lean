/- Chapter 1: contract of the model's ParseUint. -/
import Derived.Test.YtpmngaipcmacbabDoorParseP
import Derived.WideShapes
namespace Go.Proofs.YtpmngaipcmacbabDoor
open Go.RowKit
set_option linter.unusedVariables false
theorem decR_bd : ∀ (f n : Nat), ∀ x ∈ decR f n, 0 ≤ x ∧ x < 256
  | 0, n, x, h => by cases h
  | f + 1, n, x, h => by
    by_cases h0 : n = 0
    · rw [h0, decR_zero] at h; cases h
    · rw [decR_step f n h0, List.mem_append] at h
      rcases h with h | h
      · exact decR_bd f _ x h
      · simp at h; omega
theorem decN_bd (n : Nat) : ∀ x ∈ decN n, 0 ≤ x ∧ x < 256 := fun x h => by
  unfold decN at h
  by_cases h0 : n = 0
  · rw [if_pos h0] at h; simp at h; omega
  · rw [if_neg h0] at h; exact decR_bd 20 n x h
end Go.Proofs.YtpmngaipcmacbabDoor
