/- Chapter 1: contract of the model's SpansOk. -/
import Derived.Test.YtfkhhefphbhppaaSpanB
namespace Go.Proofs.Ytfkhhefphbhppaa
open Go.RowKit
set_option linter.unusedVariables false
set_option maxHeartbeats 1000000 in
theorem spansS_any (w : World) (B : Nat) (A : Option Addr) (c : Nat) (l : List (Int × Int)) (h : Int) (hl : l.length ≤ maxLen) (hB : B ≤ w.heap.size) (hS : SL w B A l) :
    Calls Try.prog 33 #[.slice A l.length c, .int .i64 h] w fun e w' => e = .returned (.bool (spansB l h)) ∧ Below w.heap.size w w' := by
  unfold maxLen at hl
  by_cases h20 : 20 < l.length
  · go_enter Try.func33, Try.ntmps33
    go_wp2
    go_ret
    exact ⟨ret_bool (spans_long l h h20).symm, Below.refl _ _⟩
  go_enter Try.func33, Try.ntmps33
  go_wp2
  go_loopw [5] (fun i wr => ∃ k : Nat, k ≤ l.length ∧ i = .int .i64 k ∧ spansB l h = chainB (prevOf l k) (l.drop k) h ∧ Below w.heap.size w wr) (fun i _ => l.length - (intOf i).toNat)
  case atStart => exact ⟨0, Nat.zero_le _, rfl, spans_start l h h20, Below.refl _ _⟩
  case round =>
    obtain ⟨k, hk, rfl, hno, hb⟩ := hrel
    have Hno := Lib.hid hno; clear hno
    by_cases hlt : k < l.length
    · have HSk := (hS.below (hb.mono hB))
      obtain ⟨b, off, x0, x1, rfl, hbB, hx, hc0, hc1⟩ := HSk.at_ hlt
      have Hx := Lib.hid hx; clear hx
      have hsz := hb.size
      rcases k with _ | m
      · have HS := Lib.hid hS; clear hS
        have HSk' := Lib.hid HSk; clear HSk
        have hc0' : wr.cell? ⟨b, off, none⟩ = some (.int .i64 x0) := by simpa using hc0
        have hc1' : wr.cell? ⟨b, off + 1, none⟩ = some (.int .i64 x1) := by simpa using hc1
        clear hc0 hc1
        by_cases h0 : x0 < 0
        · go_wp2
          go_big_quiet (fail)
          go_wp2
          go_ret
          exact ⟨ret_bool (spans_bad l h _ _ Hx.out Hno.out (.inl h0)).symm, below_drewN (hb.alloc hsz _) _⟩
        have d0 : decide (x0 < 0) = false := by simpa using h0
        by_cases h1 : x1 ≤ x0
        · go_wp2
          go_big_quiet (fail)
          go_wp2
          go_ret
          exact ⟨ret_bool (spans_bad l h _ _ Hx.out Hno.out (.inr (.inl h1))).symm, below_drewN (hb.alloc hsz _) _⟩
        have d1 : decide (x1 ≤ x0) = false := by simpa using h1
        by_cases h2 : h < x1
        · go_wp2
          go_big_quiet (fail)
          go_wp2
          go_ret
          exact ⟨ret_bool (spans_bad l h _ _ Hx.out Hno.out (.inr (.inr (.inl h2)))).symm, below_drewN (hb.alloc hsz _) _⟩
        have d2 : decide (h < x1) = false := by simpa using h2
        go_wp2
        go_big_quiet (fail)
        go_wp2
        go_roundw
        case rel => exact ⟨1, by omega, by go_num, spans_good l h 0 _ Hx.out Hno.out (by omega) (by omega) (by omega) (by simp [prevOf]; omega), below_drewN (hb.alloc hsz _) _⟩
        case measure => simp [intOf]; omega
      · obtain ⟨b', off', y0, y1, hA', hbB', hy, hd0, hd1⟩ := HSk.at_ (k := m) (by omega)
        obtain ⟨rfl, rfl⟩ : b = b' ∧ off = off' := by injection hA' with hA'; injection hA' with e1 e2; exact ⟨e1, e2⟩
        have Hy := Lib.hid hy; clear hy hA'
        have hbw : b < wr.heap.size := by omega
        have HS := Lib.hid hS; clear hS
        have HSk' := Lib.hid HSk; clear HSk
        by_cases h0 : x0 < 0
        · go_wp2
          go_big_quiet (fail)
          go_wp2
          go_ret
          exact ⟨ret_bool (spans_bad l h _ _ Hx.out Hno.out (.inl h0)).symm, below_drewN (hb.alloc hsz _) _⟩
        have d0 : decide (x0 < 0) = false := by simpa using h0
        by_cases h1 : x1 ≤ x0
        · go_wp2
          go_big_quiet (fail)
          go_wp2
          go_ret
          exact ⟨ret_bool (spans_bad l h _ _ Hx.out Hno.out (.inr (.inl h1))).symm, below_drewN (hb.alloc hsz _) _⟩
        have d1 : decide (x1 ≤ x0) = false := by simpa using h1
        by_cases h2 : h < x1
        · go_wp2
          go_big_quiet (fail)
          go_wp2
          go_ret
          exact ⟨ret_bool (spans_bad l h _ _ Hx.out Hno.out (.inr (.inr (.inl h2)))).symm, below_drewN (hb.alloc hsz _) _⟩
        have d2 : decide (h < x1) = false := by simpa using h2
        by_cases h3 : x0 ≤ y1
        · go_wp2
          have wk : IntKind.i64.wrap (m : Int) = m := IntWalk.i64_in _ (by omega)
          go_big_quiet (fail)
          clear wk
          go_wp2
          go_ret
          exact ⟨ret_bool (spans_bad l h (m+1) _ Hx.out Hno.out (.inr (.inr (.inr (by rw [prev_at l m _ Hy.out]; exact h3))))).symm, below_drewN (hb.alloc hsz _) _⟩
        · go_wp2
          have wk : IntKind.i64.wrap (m : Int) = m := IntWalk.i64_in _ (by omega)
          go_big_quiet (fail)
          clear wk
          go_wp2
          go_roundw
          case rel => exact ⟨m + 1 + 1, by omega, by go_num, spans_good l h (m+1) _ Hx.out Hno.out (by omega) (by omega) (by omega) (by rw [prev_at l m _ Hy.out]; omega), below_drewN (hb.alloc hsz _) _⟩
          case measure => simp [intOf]; omega
    · go_wp2
      go_ret
      have hkl : k = l.length := by omega
      subst hkl
      exact ⟨ret_bool (spans_end l h Hno.out).symm, hb⟩
end Go.Proofs.Ytfkhhefphbhppaa
