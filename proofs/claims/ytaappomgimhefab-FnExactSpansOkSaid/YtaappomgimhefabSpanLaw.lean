/- The walk of the law FnExactSpansOk over the contracts of what it calls. -/
import Derived.Test.YtaappomgimhefabSpanB
import Derived.Test.YtaappomgimhefabSpanC
import Derived.Test.YtaappomgimhefabSpanE
namespace Go.Proofs.Ytaappomgimhefab
open Go.RowKit
set_option linter.unusedVariables false

set_option maxHeartbeats 400000 in
theorem spansLaw_walk (A : Option Addr) (c : Nat) (l : List (Int × Int)) (most : Int) (w : World) (hl : l.length ≤ maxLen) (hS : SL w w.heap.size A l) :
    Calls Try.prog 3 #[.slice A l.length c, .int .i64 most] w fun e w' => e = .returned (.bool true) ∧ Below w.heap.size w w' := by
  have HS := Lib.hid hS; clear hS
  by_cases hbig : (1048576 : Int) < l.length
  · have hsz : szI 1048576 l.length = -1 := if_pos hbig
    go_enter Try.func3, Try.ntmps3
    go_wp2_with fail
    refine (sz_any _ _ _ _ _ hl (by omega) (by omega)).mono ?_
    rintro e w1 ⟨rfl, rfl⟩
    rw [hsz]
    clear hsz
    go_wp2_with fail
    go_ret
    exact ⟨rfl, Below.refl _ _⟩
  · have hsz : szI 1048576 l.length = 1048576 - l.length := if_neg hbig
    have hl20 : l.length ≤ 1048576 := by omega
    go_enter Try.func3, Try.ntmps3
    go_wp2_with fail
    refine (sz_any _ _ _ _ _ hl (by omega) (by omega)).mono ?_
    rintro e w1 ⟨rfl, rfl⟩
    rw [hsz]
    clear hsz
    go_wp2_with fail
    refine (toSpanS_any w1 _ A c l hl20 (Nat.le_refl _) HS.out).mono ?_
    rintro e w2 ⟨A2, rfl, _, hS2, hb2⟩
    have HS2 := Lib.hid hS2; clear hS2
    go_wp2_with fail
    refine (spansS_any w2 _ A2 l.length l most hl (Nat.le_refl _) HS2.out).mono ?_
    rintro e w3 ⟨rfl, hb3⟩
    go_wp2_with fail
    have hb13 := hb2.trans (hb3.mono hb2.size)
    refine (toSpanS_any w3 _ A c l hl20 hb13.size (HS.out.below hb13)).mono ?_
    rintro e w4 ⟨A4, rfl, _, hS4, hb4⟩
    have HS4 := Lib.hid hS4; clear hS4
    go_wp2_with fail
    refine (spansI_any w4 _ A4 l.length l most hl (Nat.le_refl _) HS4.out).mono ?_
    rintro e w5 ⟨rfl, hb5⟩
    have hb15 := (hb13.trans (hb4.mono hb13.size)).trans (hb5.mono (hb13.trans (hb4.mono hb13.size)).size)
    go_wp2_with fail
    refine (toSpanS_any w5 _ A c l hl20 hb15.size (HS.out.below hb15)).mono ?_
    rintro e w6 ⟨A6, rfl, _, hS6, hb6⟩
    go_wp2_with fail
    refine (eqSpanS_any w6 w4.heap.size w6.heap.size A4 A6 l.length l.length l hl (Nat.le_trans hb5.size hb6.size) (Nat.le_refl _) (HS4.out.below (hb5.trans (hb6.mono hb5.size))) hS6).mono ?_
    rintro e w7 ⟨rfl, hb7⟩
    go_wp2_with fail
    go_ret
    exact ⟨rfl, (hb15.trans (hb6.mono hb15.size)).trans (hb7.mono (hb15.trans (hb6.mono hb15.size)).size)⟩
end Go.Proofs.Ytaappomgimhefab
