/- Chapter 2: contract of the program's boxesOk. -/
import Derived.Test.YthmoonjceokijaaColP
namespace Go.Proofs.Ythmoonjceokijaa
open Go.RowKit
set_option linter.unusedVariables false

/-- what boxesOk asks for -/
def BoxesW (h : Int) (F : List Int) (L : List Bx) : Prop := BoxesTo L L.length ∧ lowAt L L.length = h ∧ wallsTo F L L.length = F.length
theorem boxesW_no {h : Int} {F : List Int} {L : List Bx} {k : Nat} {x : Bx} (hx : L[k]? = some x) (hbad : x.low ≠ lowAt L k ∨ x.size < 1 ∨ h - lowAt L k < x.size ∨ x.par < 0 ∨ 999 < x.par) : ¬ BoxesW h F L := by
  rintro ⟨h1, h2, h3⟩
  have hk : k < L.length := (List.getElem?_eq_some_iff.1 hx).1
  have hb := h1 k x hk hx
  have hs := size_le h1 h2 hx
  have hn := lowAt_succ hx
  unfold BoxAt at hb
  rcases hbad with hh | hh | hh | hh | hh
  · exact hh hb.1
  all_goals omega
theorem walls_le (F : List Int) (L : List Bx) (k : Nat) : wallsTo F L k ≤ k := by
  unfold wallsTo cntIn
  have := List.countP_le_length (p := fun x => F.contains x) (l := (L.take k).map Bx.low)
  simp at this
  simp; omega

set_option maxHeartbeats 1000000 in
theorem boxesI_any (w : World) (B : Nat) (A A' : Option Addr) (c c' : Nat) (h : Int) (F : List Int) (L : List Bx) (hf : F.length ≤ maxLen) (hl : L.length ≤ maxLen) (hB : B ≤ w.heap.size) (hS : IL w B A F) (hT : XL w B A' L) (h1 : 1 ≤ h) (h24 : h ≤ 24) :
    Calls Try.prog 38 #[.agg #[.int .i64 h, .slice A F.length c, .slice A' L.length c']] w (Tells (BoxesW h F L) w) := by
  have hl' := hl
  unfold maxLen at hl
  have HS := Lib.hid hS; clear hS
  have HT := Lib.hid hT; clear hT
  go_enter Try.func38, Try.ntmps38
  go_wp2
  generalize hW0 : w.alloc (.cells #[.int .i64 h, .slice A F.length c, .slice A' L.length c'] 27) = w0 at *
  have hb0 : Below w.heap.size w w0 := by rw [← hW0]; exact balloc _ _
  have hc : Has w0 w.heap.size 27 #[.int .i64 h, .slice A F.length c, .slice A' L.length c'] := by rw [← hW0]; exact has_new _ _ _
  clear hW0
  have HC := Lib.hid hc; clear hc
  go_loopw [3, 4, 10] (fun lv fv i wr => ∃ (k : Nat), k ≤ L.length ∧ i = .int .i64 k ∧ lv = .int .i64 (lowAt L k) ∧ fv = .int .i64 (wallsTo F L k) ∧ 0 ≤ lowAt L k ∧ lowAt L k ≤ h ∧ BoxesTo L k ∧ Below w0.heap.size w0 wr) (fun _ _ i _ => L.length - (intOf i).toNat)
  case atStart => exact ⟨0, Nat.zero_le _, rfl, rfl, rfl, by simp [lowAt], by simp [lowAt]; omega, fun k x hk => absurd hk (by omega), Below.refl _ _⟩
  case round =>
    obtain ⟨k, hk, rfl, rfl, rfl, hl0, hlh, hbt, hb⟩ := hrel
    have HBT := Lib.hid hbt; clear hbt
    have hsz := hb.size
    have hsz0 := hb0.size
    have hcw := has_call HC.out hb
    have e0 := has_cell hcw 0 rfl
    have e1 := has_cell hcw 1 rfl
    have hcb := has_lt hcw
    have HCW := Lib.hid hcw; clear hcw
    have hba : Below w.heap.size w wr := bthen hb0 hb
    have hwl := walls_le F L k
    by_cases hlt : k < L.length
    · obtain ⟨b, off, x, rfl, hbB, hx, hc0, hc1, hc2, hc3⟩ := (HT.out.later hB hba).at_ hlt
      have hls := lowAt_succ hx
      have hws := wallsTo_succ (F := F) hx
      obtain ⟨x0, x1, x2, x3⟩ := x
      dsimp only at hc0 hc1 hc2 hc3 hls hws
      have HX := Lib.hid hx; clear hx
      have HLS := Lib.hid hls; clear hls
      have HWS := Lib.hid hws; clear hws
      generalize hat : lowAt L k = at' at *
      have HAT := Lib.hid hat; clear hat
      generalize hwt : wallsTo F L k = wt at *
      have HWT := Lib.hid hwt; clear hwt
      have hbw : b < wr.heap.size := by have := hba.size; omega
      by_cases q0 : x0 = at'
      · obtain rfl : at' = x0 := q0.symm
        have n0 : (at' != at') = false := by simp
        by_cases q1 : x1 < 1
        · go_wp2
          go_ret
          exact tells_no (boxesW_no HX.out (.inr (.inl q1))) (hba.alloc hba.size _)
        by_cases q2 : h - at' < x1
        · go_wp2
          go_ret
          exact tells_no (boxesW_no HX.out (.inr (.inr (.inl (by rw [HAT.out]; exact q2))))) (hba.alloc hba.size _)
        by_cases q3 : x2 < 0
        · go_wp2
          go_ret
          exact tells_no (boxesW_no HX.out (.inr (.inr (.inr (.inl q3))))) (hba.alloc hba.size _)
        by_cases q4 : 999 < x2
        · go_wp2
          go_ret
          exact tells_no (boxesW_no HX.out (.inr (.inr (.inr (.inr q4))))) (hba.alloc hba.size _)
        go_wp2_with fail
        generalize hW1 : (wr.alloc (.cells #[.int .i64 at', .int .i64 x1, .int .i64 x2, .bool x3] 47)) = w1
        have bx : Below wr.heap.size wr w1 := by rw [← hW1]; exact balloc _ _
        have kx : Has w1 wr.heap.size 47 #[.int .i64 at', .int .i64 x1, .int .i64 x2, .bool x3] := by rw [← hW1]; exact has_new _ _ _
        clear hW1
        have hb1 := bthen hba bx
        refine (contains_any w1 B A c F at' hf (by have := hb1.size; omega) (HS.out.later hB hb1)).mono ?_
        rintro e w2 ⟨rfl, hb2⟩
        have m1 := has_call kx hb2
        have g1 := has_cell m1 1 rfl
        have hb3 := bthen hb1 hb2
        have hb4 : Below w0.heap.size w0 w2 := hb.trans ((bx.trans (hb2.mono bx.size)).mono hsz)
        cases hct : F.contains at'
        · have HCT := Lib.hid hct; clear hct
          go_wp2
          go_roundw
          case rel => exact ⟨k + 1, by omega, by go_num, by rw [HLS.out], by rw [HWS.out, HCT.out]; simp, by rw [HLS.out]; omega, by rw [HLS.out]; omega, boxesTo_succ HBT.out HX.out ⟨HAT.out.symm, by show 1 ≤ x1; omega, by show 0 ≤ x2; omega, by show x2 ≤ 999; omega⟩, hb4⟩
          case measure => simp [intOf]; omega
        · have HCT := Lib.hid hct; clear hct
          go_wp2
          go_roundw
          case rel => exact ⟨k + 1, by omega, by go_num, by rw [HLS.out], by rw [HWS.out, HCT.out]; simp, by rw [HLS.out]; omega, by rw [HLS.out]; omega, boxesTo_succ HBT.out HX.out ⟨HAT.out.symm, by show 1 ≤ x1; omega, by show 0 ≤ x2; omega, by show x2 ≤ 999; omega⟩, hb4⟩
          case measure => simp [intOf]; omega
      · have n0 : (x0 != at') = true := by simpa using q0
        go_wp2
        go_ret
        exact tells_no (boxesW_no HX.out (.inl (by rw [HAT.out]; exact q0))) (hba.alloc hba.size _)
    · have hkl : k = L.length := by omega
      subst hkl
      generalize hat : lowAt L L.length = at' at *
      generalize hwt : wallsTo F L L.length = wt at *
      have HAT := Lib.hid hat; clear hat
      have HWT := Lib.hid hwt; clear hwt
      by_cases q0 : at' = h
      · have n0 : (at' == h) = true := by simpa using q0
        by_cases q1 : wt = F.length
        · have n1 : ((wt : Int) == (F.length : Int)) = true := by simp [q1]
          go_wp2
          go_ret
          exact tells_yes ⟨HBT.out, by rw [HAT.out, q0], by rw [HWT.out, q1]⟩ hba
        · have n1 : ((wt : Int) == (F.length : Int)) = false := by simp; omega
          go_wp2
          go_ret
          exact tells_no (fun g => q1 (by rw [← HWT.out]; exact g.2.2)) hba
      · have n0 : (at' == h) = false := by simpa using q0
        go_wp2
        go_ret
        exact tells_no (fun g => q0 (by rw [← HAT.out]; exact g.2.1)) hba
end Go.Proofs.Ythmoonjceokijaa
