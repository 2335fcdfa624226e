/- Chapter 7: which tour is better (gen_txb.py). -/
import Derived.Test.YtfimdhbcifjioaaTxA
import Derived.Deep.RegionHeld3
import Derived.Deep.DeepMust
import Derived.WalkLawsBesides
namespace Go.Proofs.Ytfimdhbcifjioaa
open Go.RowKit
set_option linter.unusedVariables false

set_option maxRecDepth 100000 in
theorem ends_any (w : World) (A A2 B B2 : Option Addr) (n c n2 c2 m e m2 e2 : Nat) (f p q g s t : Int) : Calls Try.prog 19 #[.agg #[.slice A n c, .slice A2 n2 c2, .int .i64 f, .int .i64 p, .int .i64 q], .agg #[.slice B m e, .slice B2 m2 e2, .int .i64 g, .int .i64 s, .int .i64 t]] w fun x w' => x = .returned (.bool (decide (f < g))) ∧ Below w.heap.size w w' := by
  go_enter Try.func19, Try.ntmps19
  go_wp2_with fail
  go_ret
  exact ⟨rfl, bthen (balloc _ _) (balloc _ _)⟩
/-- more stops, or as many and an earlier end -/
def moreB (n m : Nat) (f g : Int) : Bool := decide ((m : Int) < (n : Int)) || decide ((n : Int) = (m : Int)) && decide (f < g)
set_option maxRecDepth 100000 in
theorem more_any (w : World) (A A2 B B2 : Option Addr) (n c n2 c2 m e m2 e2 : Nat) (f p q g s t : Int) : Calls Try.prog 21 #[.agg #[.slice A n c, .slice A2 n2 c2, .int .i64 f, .int .i64 p, .int .i64 q], .agg #[.slice B m e, .slice B2 m2 e2, .int .i64 g, .int .i64 s, .int .i64 t]] w fun x w' => x = .returned (.bool (moreB n m f g)) ∧ Below w.heap.size w w' := by
  have HEN := Lib.hid (fun W => ends_any W A A2 B B2 n c n2 c2 m e m2 e2 f p q g s t)
  by_cases h1 : m < n
  · have HV := Lib.hid (show true = moreB n m f g by simp [moreB, h1])
    go_enter Try.func21, Try.ntmps21
    go_wp2_with fail
    go_ret
    exact ⟨ret_bool HV.out, bthen (balloc _ _) (balloc _ _)⟩
  · by_cases h2 : (n : Int) = (m : Int)
    · have HV := Lib.hid (show decide (f < g) = moreB n m f g by unfold moreB; rw [decide_eq_false (show ¬ ((m : Int) < (n : Int)) by omega), decide_eq_true h2]; simp)
      have h2b : ((n : Int) == (m : Int)) = true := by simpa using h2
      have hnm : n = m := by omega
      have HNM := Lib.hid hnm; clear hnm h2
      have h1' : ¬ ((m : Int) < (n : Int)) := by omega
      go_enter Try.func21, Try.ntmps21
      go_wp2_with fail
      refine (HEN.out _).mono ?_
      rintro x w1 ⟨rfl, hb⟩
      have HB := Lib.hid (bthen (bthen (balloc _ _) (balloc _ _)) hb)
      clear hb
      go_wp2_with fail
      go_ret
      exact ⟨ret_bool HV.out, HB.out⟩
    · have HV := Lib.hid (show false = moreB n m f g by unfold moreB; rw [decide_eq_false (show ¬ ((m : Int) < (n : Int)) by omega), decide_eq_false h2]; simp)
      have h2b : ((n : Int) == (m : Int)) = false := by simpa using h2
      go_enter Try.func21, Try.ntmps21
      go_wp2_with fail
      go_ret
      exact ⟨ret_bool HV.out, bthen (balloc _ _) (balloc _ _)⟩
end Go.Proofs.Ytfimdhbcifjioaa
