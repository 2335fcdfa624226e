/- Chapter 8: FormatEvent of the model: a relation that is made stronger midway (gen_fme.py). -/
import Derived.Test.YtgmdplhaofhliaaDoorFmE
namespace Go.Proofs.YtgmdplhaofhliaaDoor
open Go.RowKit
set_option linter.unusedVariables false
theorem wpAnyH_strong {P : Program} {md : Region.Mode} {ops : Array Oper} {Q : Exit → Act → World → Prop} {S S2 : World → Prop} (hi : ∀ W, S2 W → S W) : ∀ {fuel : Nat} {listed : Array Bool} {a : Act} {w : World}, wpAnyH P md ops Q S2 fuel listed a w → wpAnyH P md ops Q S fuel listed a w
  | 0, _, _, _, h => h
  | fuel + 1, _, _, _, h => ⟨h.1, fun i hr => wpOp_mono (fun a' w' h' => ⟨hi _ h'.1, wpAnyH_strong hi h'.2⟩) (h.2 i hr)⟩
set_option maxRecDepth 100000 in
set_option maxHeartbeats 2000000 in
theorem fmeS_bad (w : World) (x0 x1 x2 x3 x4 x5 x6 : Int) (he : evB ⟨x0, x1, x2, x3, x4, x5, x6⟩ = false) : Calls Tryd.prog 12 #[.agg #[.int .i64 x0, .int .i64 x1, .int .i64 x2, .int .i64 x3, .int .i64 x4, .int .i64 x5, .int .i64 x6]] w fun e w' => e = .returned (.string (fmE ⟨x0, x1, x2, x3, x4, x5, x6⟩)) ∧ Below w.heap.size w w' := by
  have HE := Lib.hid he; clear he
  go_enter Tryd.func12, Tryd.ntmps12
  go_wp2_with (go_at_call 21; refine (evS_any _ x0 x1 x2 x3 x4 x5 x6).mono ?_; rintro e w1 ⟨rfl, hb1⟩; rw [HE.out])
  go_ret
  exact ⟨by rw [fmE_bad HE.out]; rfl, bthen (balloc _ _) hb1⟩
end Go.Proofs.YtgmdplhaofhliaaDoor
