/- Chapter 1: laws.markText, exactly. -/
import Derived.Test.YtlajniepjnhfcaaDoorBoxH
import Derived.ChangeMaps
namespace Go.Proofs.YtlajniepjnhfcaaDoor
open Go.RowKit
set_option linter.unusedVariables false

def decM : Nat → Nat → List Int
  | 0, _ => []
  | f + 1, n => if n = 0 then [] else decM f (n / 10) ++ [48 + ((n % 10 : Nat) : Int)]
theorem decM_zero (f : Nat) : decM f 0 = [] := by cases f <;> rfl
theorem decM_step (f n : Nat) (h : n ≠ 0) : decM (f + 1) n = decM f (n / 10) ++ [48 + ((n % 10 : Nat) : Int)] := by rw [decM, if_neg h]
theorem conv_oneM {w : World} {g c : Nat} {x : Int} (h : Has w g 5 #[.int .u8 x]) :
    (convert 22 9 (.slice (some ⟨g, 0, none⟩) 1 c)).run Tryd.prog w = .ok (.string (strOfNums [x])) w :=
  run_convert_bytes_arg w _ _ Tryd.underlying22 Tryd.underlying5 g 0 1 c [x] rfl (fun i hi => by
    have : i = 0 := by omega
    subst this
    exact has_cell h 0 rfl) _ Tryd.underlying9
theorem str_appM (a b : List Int) : strOfNums a ++ strOfNums b = strOfNums (a ++ b) := by
  apply ByteArray.ext
  rw [ByteArray.data_append]
  simp [strOfNums]
def mkT (k : Nat) : ByteArray := strOfNums (109 :: decM 20 k)
end Go.Proofs.YtlajniepjnhfcaaDoor
