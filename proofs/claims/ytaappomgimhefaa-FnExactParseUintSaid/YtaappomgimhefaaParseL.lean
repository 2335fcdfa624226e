/- The walk of the law FnExactParseUint. -/
import Derived.Test.YtaappomgimhefaaParseI
namespace Go.Proofs.Ytaappomgimhefaa
open Go.RowKit
set_option linter.unusedVariables false
set_option maxHeartbeats 400000 in
theorem parseLaw_walk (s : ByteArray) (w : World) (hs : s.size ≤ maxLen) :
    Calls Try.prog 8 #[.string s] w fun e w' => e = .returned (.bool true) ∧ Below w.heap.size w w' := by
  have hs' := hs
  unfold maxLen at hs'
  by_cases hbig : 1048576 < s.size
  · go_enter Try.func8, Try.ntmps8
    go_wp2_with fail
    go_ret
    exact ⟨rfl, Below.refl _ _⟩
  obtain ⟨t, b, hE⟩ : ∃ t b, parseV (bts s) = .tuple #[.int .i64 t, .bool b] := by
    unfold parseV
    split
    · exact ⟨_, _, rfl⟩
    · exact ⟨_, _, rfl⟩
  have HE := Lib.hid hE; clear hE
  have hb : (b != b) = false := by simp
  have ht : (t != t) = false := by simp
  go_enter Try.func8, Try.ntmps8
  go_wp2_with fail
  refine (parseS_any w s hs).mono ?_
  rintro e w1 ⟨rfl, hb1⟩
  rw [HE.out]
  go_wp2_with fail
  refine (parseI_any w1 s hs).mono ?_
  rintro e w2 ⟨rfl, hb2⟩
  rw [HE.out]
  go_wp2_with fail
  go_ret
  exact ⟨rfl, bthen hb1 hb2⟩
end Go.Proofs.Ytaappomgimhefaa
