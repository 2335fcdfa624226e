/- Chapter 2: contracts of the laws' own helpers over numbers and boxes: sizes, copies, comparisons, marks. -/
import Derived.Test.YtnimdbmcpbpoiaaBoxO
import Derived.Test.YtnimdbmcpbpoiaaRet
import Derived.StillTailTactics
namespace Go.Proofs.Ytnimdbmcpbpoiaa
open Go.RowKit
set_option linter.unusedVariables false

theorem ret_eq {a b : Value} (h : a = b) : Ending.returned a = .returned b := by rw [h]
/-- the size of a column: -1 if it is above what is left -/
def szC (left : Int) (n m : Nat) : Int := if left < n + m then -1 else left - n - m
theorem intInfo : (Try.prog.info? 3).map (fun i => (i.zero, i.size, i.bytes)) = some (some (.int .i64 0), 1, 8) := by kernel_rfl
set_option maxHeartbeats 400000 in
theorem eqIntS_any (w : World) (B B' : Nat) (A A' : Option Addr) (c c' : Nat) (l : List Int) (hl : l.length ≤ maxLen) (hB : B ≤ w.heap.size) (hB' : B' ≤ w.heap.size) (hS : IL w B A l) (hS' : IL w B' A' l) :
    Calls Try.prog 11 #[.slice A l.length c, .slice A' l.length c'] w fun e w' => e = .returned (.bool true) ∧ Below w.heap.size w w' := by
  unfold maxLen at hl
  have e0 : ((l.length : Int) != (l.length : Int)) = false := by simp
  go_enter Try.func11, Try.ntmps11
  go_wp2
  clear e0
  go_loopw [5] (fun i wr => ∃ k : Nat, k ≤ l.length ∧ i = .int .i64 k ∧ Below w.heap.size w wr) (fun i _ => l.length - (intOf i).toNat)
  case atStart => exact ⟨0, Nat.zero_le _, rfl, Below.refl _ _⟩
  case round =>
    obtain ⟨k, hk, rfl, hb⟩ := hrel
    by_cases hlt : k < l.length
    · have hsz := hb.size
      obtain ⟨b, off, x, rfl, hbB, hx, hc0⟩ := (hS.below (hb.mono hB)).at_ hlt
      obtain ⟨b', off', y, rfl, hbB', hy, hd0⟩ := (hS'.below (hb.mono hB')).at_ hlt
      obtain rfl : x = y := by rw [hx] at hy; injection hy
      clear hx hy
      have HS := Lib.hid hS; clear hS
      have HS' := Lib.hid hS'; clear hS'
      have e0 : (x != x) = false := by simp
      go_wp2
      go_quiet (fail)
      go_wp2
      go_roundw
      case rel => exact ⟨k + 1, by omega, by go_num, below_drewN hb _⟩
      case measure => simp [intOf]; omega
    · go_wp2
      go_ret
      exact ⟨rfl, hb⟩

end Go.Proofs.Ytnimdbmcpbpoiaa
