/- Chapter 3: the walk of the law FnExactCodeOf. -/
import Derived.Test.YtjpafmkmpnibgaaDoorCodI
namespace Go.Proofs.YtjpafmkmpnibgaaDoor
open Go.RowKit
set_option linter.unusedVariables false
set_option maxHeartbeats 1000000 in
theorem codeLaw_walk (w : World) (s c : Int) (hR : Rounds w) : Calls Tryd.prog 3 #[.int .i64 s, .int .i64 c] w fun e w' => e = .returned (.bool true) ∧ Below w.heap.size w w' := by
  generalize hq : codeT s c = q
  have HR := Lib.hid hR; clear hR
  go_enter Tryd.func3, Tryd.ntmps3
  go_wp2_with fail
  refine (codeS_any _ s c).mono ?_
  rintro e w1 ⟨rfl, hb1⟩
  rw [hq]
  go_wp2_with fail
  refine (codeI_any _ s c (HR.out.below hb1)).mono ?_
  rintro e w2 ⟨rfl, hb2⟩
  rw [hq]
  have C2 := Lib.hid (bthen hb1 hb2)
  clear hq
  go_wp2_with fail
  go_ret
  exact ⟨rfl, C2.out⟩
end Go.Proofs.YtjpafmkmpnibgaaDoor
