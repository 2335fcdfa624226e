/- Chapter 8: the law's copy of a list of events, and its capacity (gen_evla.py). -/
import Derived.Test.YtchphcchpdekoaaEvR
namespace Go.Proofs.Ytchphcchpdekoaa
open Go.RowKit
set_option linter.unusedVariables false
set_option maxRecDepth 100000 in
set_option maxHeartbeats 2000000 in
theorem toEventS_cap (w : World) (B : Nat) (A : Option Addr) (c : Nat) (l : List Ev) (hl : l.length ≤ 1048576) (hB : B ≤ w.heap.size) (hS : evL w B A l) :
    Calls Try.prog 13 #[.slice A l.length c] w fun e w' => ∃ A' c', l.length ≤ c' ∧ e = .returned (.slice A' l.length c') ∧ OR w' w.heap.size 25 A' (evV l) ∧ Below w.heap.size w w' := by
  have hmk := makeev_run l.length hl
  go_enter Try.func13, Try.ntmps13
  go_wp2
  go_loopw [4] (fun i wr => ∃ (k : Nat) (cs : Array Value), k ≤ l.length ∧ i = .int .i64 k ∧ Copiedev wr w.heap.size cs l k ∧ Below w.heap.size w wr) (fun i _ => l.length - (intOf i).toNat)
  case atStart => exact ⟨0, _, Nat.zero_le _, rfl, ⟨has_new _ _ _, by simp [size_madeCells], fun j x hj => absurd hj (by omega)⟩, balloc _ _⟩
  case round =>
    obtain ⟨k, cs, hk, rfl, hcp, hb⟩ := hrel
    have HC := Lib.hid hcp; clear hcp
    clear hmk
    have hsz := hb.size
    by_cases hlt : k < l.length
    · obtain ⟨b, off, ⟨x0, x1, x2, x3, x4, x5, x6⟩, rfl, hbB, hx, hc0, hc1, hc2, hc3, hc4, hc5, hc6⟩ := (hS.below (hb.mono hB)).at_ hlt
      have Hx := Lib.hid hx; clear hx
      have HS := Lib.hid hS; clear hS
      dsimp only at hc0 hc1 hc2 hc3 hc4 hc5 hc6
      go_wp2_with fail
      refine (toEvent_any _ _ _ _ _ _ _ _).mono ?_
      rintro e w1 ⟨rfl, hb1⟩
      have hC1 := HC.out.below hb1
      obtain ⟨u0, hu0⟩ := hC1.cellAt (j := k * 7) (by omega)
      obtain ⟨u1, hu1⟩ := hC1.cellAt (j := k * 7 + 1) (by omega)
      obtain ⟨u2, hu2⟩ := hC1.cellAt (j := k * 7 + 2) (by omega)
      obtain ⟨u3, hu3⟩ := hC1.cellAt (j := k * 7 + 3) (by omega)
      obtain ⟨u4, hu4⟩ := hC1.cellAt (j := k * 7 + 4) (by omega)
      obtain ⟨u5, hu5⟩ := hC1.cellAt (j := k * 7 + 5) (by omega)
      obtain ⟨u6, hu6⟩ := hC1.cellAt (j := k * 7 + 6) (by omega)
      have hf0 := has_free hC1.heap (k * 7)
      have hf1 := has_free hC1.heap (k * 7 + 1)
      have hf2 := has_free hC1.heap (k * 7 + 2)
      have hf3 := has_free hC1.heap (k * 7 + 3)
      have hf4 := has_free hC1.heap (k * 7 + 4)
      have hf5 := has_free hC1.heap (k * 7 + 5)
      have hf6 := has_free hC1.heap (k * 7 + 6)
      have hst := hC1.step Hx.out
      have HST := Lib.hid hst; clear hst hC1
      go_wp2
      go_roundw
      case rel => exact ⟨k + 1, _, by omega, by go_num, HST.out, ((((((((hb.trans (hb1.mono hsz)).setCell (Nat.le_refl _) _).setCell (Nat.le_refl _) _).setCell (Nat.le_refl _) _).setCell (Nat.le_refl _) _).setCell (Nat.le_refl _) _).setCell (Nat.le_refl _) _).setCell (Nat.le_refl _) _)⟩
      case measure => simp [intOf]; omega
    · go_wp2
      go_ret
      have hkl : k = l.length := by omega
      subst hkl
      exact ⟨_, l.length, Nat.le_refl _, rfl, HC.out.row (Nat.le_refl _), hb⟩
end Go.Proofs.Ytchphcchpdekoaa
