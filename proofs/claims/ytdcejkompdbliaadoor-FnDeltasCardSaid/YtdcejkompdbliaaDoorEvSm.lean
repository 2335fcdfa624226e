/- Chapter 8: the laws' comparison of lists of events (gen_evsm.py). -/
import Derived.Test.YtdcejkompdbliaaDoorEvR
import Derived.Test.YtdcejkompdbliaaDoorEvD
namespace Go.Proofs.YtdcejkompdbliaaDoor
open Go.RowKit
set_option linter.unusedVariables false
set_option maxRecDepth 100000 in
set_option maxHeartbeats 2000000 in
theorem same_any8 (w : World) (B B2 : Nat) (A A2 : Option Addr) (c c2 : Nat) (l : List Ev) (hl : l.length ≤ 1048576) (hB : B ≤ w.heap.size) (hB2 : B2 ≤ w.heap.size) (hS : evL w B A l) (hS2 : evL w B2 A2 l) : Calls Tryd.prog 9 #[.slice A l.length c, .slice A2 l.length c2] w fun e w' => e = .returned (.bool true) ∧ Below w.heap.size w w' := by
  have HS := Lib.hid hS; have HS2 := Lib.hid hS2; clear hS hS2
  have hnn : ((l.length : Int) != (l.length : Int)) = false := by simp
  go_enter Tryd.func9, Tryd.ntmps9
  go_wp2
  go_loopw [5] (fun i wr => ∃ k : Nat, k ≤ l.length ∧ i = .int .i64 k ∧ Below w.heap.size w wr) (fun i _ => l.length - (intOf i).toNat)
  case atStart => exact ⟨0, Nat.zero_le _, rfl, Below.refl _ _⟩
  case round =>
    obtain ⟨k, hk, rfl, hb⟩ := hrel
    have hsz := hb.size
    have HB := Lib.hid hb; clear hb
    by_cases hlt : k < l.length
    · obtain ⟨b, off, ⟨x0, x1, x2, x3, x4, x5, x6⟩, hA, hbB, hx, hc0, hc1, hc2, hc3, hc4, hc5, hc6⟩ := (HS.out.below (HB.out.mono hB)).at_ hlt
      obtain ⟨b2, off2, y, hA2, hbB2, hy, hd0, hd1, hd2, hd3, hd4, hd5, hd6⟩ := (HS2.out.below (HB.out.mono hB2)).at_ hlt
      rw [hx] at hy; injection hy with hy; subst hy
      dsimp only at hc0 hc1 hc2 hc3 hc4 hc5 hc6 hd0 hd1 hd2 hd3 hd4 hd5 hd6
      clear hx
      have HSA := Lib.hid hA; have HSA2 := Lib.hid hA2; clear hA hA2
      have hA := HSA.out; have hA2 := HSA2.out; subst hA hA2; clear HSA HSA2
      have hk0 : (0 : Int) ≤ k := (by omega); have hk1 : (k : Int) < l.length := (by omega)
      have e0 : (x0 != x0) = false := (by simp); have e1 : (x1 != x1) = false := (by simp); have e2 : (x2 != x2) = false := (by simp); have e3 : (x3 != x3) = false := (by simp); have e4 : (x4 != x4) = false := (by simp); have e5 : (x5 != x5) = false := (by simp); have e6 : (x6 != x6) = false := (by simp)
      go_wp2_with fail
      go_quiet (fail)
      rename Nat => nq0
      go_wp2_with fail
      go_roundw
      case rel => exact ⟨k + 1, by omega, by go_num, below_drewN HB.out nq0⟩
      case measure => simp [intOf]; omega
    · have hkl : k = l.length := by omega
      subst hkl
      go_wp2
      go_ret
      exact ⟨rfl, HB.out⟩
end Go.Proofs.YtdcejkompdbliaaDoor
