/- Chapter 1: contract of the model's FormatInt, for numbers that are not negative. -/
import Derived.Test.YtlajniepjnhfcaaDoorHexA
namespace Go.Proofs.YtlajniepjnhfcaaDoor
open Go.RowKit
set_option linter.unusedVariables false

/-- the decimal digits of n, the first one in front; none for 0 -/
def decR : Nat → Nat → List Int
  | 0, _ => []
  | f + 1, n => if n = 0 then [] else decR f (n / 10) ++ [48 + ((n % 10 : Nat) : Int)]
theorem decR_zero (f : Nat) : decR f 0 = [] := by cases f <;> rfl
theorem decR_step (f n : Nat) (h : n ≠ 0) : decR (f + 1) n = decR f (n / 10) ++ [48 + ((n % 10 : Nat) : Int)] := by rw [decR, if_neg h]
def decN (n : Nat) : List Int := if n = 0 then [48] else decR 20 n
theorem conv_one {w : World} {g c : Nat} {x : Int} (h : Has w g 5 #[.int .u8 x]) :
    (convert 22 9 (.slice (some ⟨g, 0, none⟩) 1 c)).run Tryd.prog w = .ok (.string (strOfNums [x])) w :=
  run_convert_bytes_arg w _ _ Tryd.underlying22 Tryd.underlying5 g 0 1 c [x] rfl (fun i hi => by
    have : i = 0 := by omega
    subst this
    exact has_cell h 0 rfl) _ Tryd.underlying9

theorem str_append (a b : List Int) : strOfNums a ++ strOfNums b = strOfNums (a ++ b) := by
  apply ByteArray.ext
  rw [ByteArray.data_append]
  simp [strOfNums]
theorem fig_small (x : Int) (h : x < 10) : fig x = 48 + x := by unfold fig; rw [if_pos h]

end Go.Proofs.YtlajniepjnhfcaaDoor
