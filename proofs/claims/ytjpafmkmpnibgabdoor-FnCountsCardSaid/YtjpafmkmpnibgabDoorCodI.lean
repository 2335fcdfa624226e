/- Chapter 3: contract of the program's CodeOf: the rounds are what the variable holds. -/
import Derived.Test.YtjpafmkmpnibgabDoorLckA
import Derived.Test.YtjpafmkmpnibgabDoorHexA
import Derived.Test.YtjpafmkmpnibgabDoorCodS
namespace Go.Proofs.YtjpafmkmpnibgabDoor
open Go.RowKit
set_option linter.unusedVariables false

/-- the six bytes when k of them are written -/
def rowD (k x : Nat) : Array Value := (List.replicate (6 - k) (Value.int .u8 0) ++ (lowD k x).map (Value.int .u8)).toArray
theorem rowD_set (x : Nat) : ∀ k, k < 6 → (rowD k x).setIfInBounds (5 - k) (.int .u8 (48 + ((x / 10 ^ k % 10 : Nat) : Int))) = rowD (k + 1) x
  | 0, _ => rfl
  | 1, _ => rfl
  | 2, _ => rfl
  | 3, _ => rfl
  | 4, _ => rfl
  | 5, _ => rfl
  | k + 6, h => by omega
theorem rowD_at (x k : Nat) (hk : k < 6) : ∃ v, (rowD 6 x)[k]? = some v := ⟨_, Array.getElem?_eq_getElem (by simp [rowD, lowD_len]; exact hk)⟩

set_option maxRecDepth 100000 in
set_option maxHeartbeats 4000000 in
theorem lastD_any (w : World) (x0 : Nat) (hx : x0 < 2147483648) : Calls Tryd.prog 33 #[.int .i64 (x0 : Int)] w fun e w' => e = .returned (.string (strOfNums (lowD 6 x0))) ∧ Below w.heap.size w w' := by
  go_enter Tryd.func33, Tryd.ntmps33
  go_wp2
  go_loopw [0, 5] (fun xv iv wr => ∃ k : Nat, k ≤ 6 ∧ iv = .int .i64 k ∧ xv = .int .i64 ((x0 / 10 ^ k : Nat) : Int) ∧ Has wr w.heap.size 67 (rowD k x0) ∧ Below w.heap.size w wr) (fun _ iv _ => 6 - (intOf iv).toNat)
  case atStart => exact ⟨0, by omega, rfl, by simp, has_new _ _ _, balloc _ _⟩
  case round =>
    obtain ⟨k, hk, rfl, rfl, hh, hb⟩ := hrel
    have HB := Lib.hid hb; have HH := Lib.hid hh
    by_cases hlt : k < 6
    · have hst := rowD_set x0 k hlt
      have hdm : x0 / 10 ^ (k + 1) = x0 / 10 ^ k / 10 := by rw [Nat.pow_succ, Nat.div_div_eq_div_mul]
      have hle : x0 / 10 ^ k ≤ x0 := Nat.div_le_self _ _
      have HST := Lib.hid hst; have HDM := Lib.hid hdm; clear hst hdm
      generalize hm : x0 / 10 ^ k = m at *
      have hmod : (m : Int) % 10 = ((m % 10 : Nat) : Int) := by omega
      have hmb : m % 10 < 10 := by omega
      generalize hr : m % 10 = r at *
      have HR := Lib.hid hr; have HM := Lib.hid hm; clear hr hm
      have hset := has_set hh (5 - k) (.int .u8 (48 + (r : Int)))
      rw [HST.out] at hset
      have hfz := has_free hh (5 - k)
      obtain ⟨v0, hv0⟩ : ∃ v, (rowD k x0)[5 - k]? = some v := ⟨_, Array.getElem?_eq_getElem (by simp [rowD, lowD_len]; omega)⟩
      have hc := has_cell hh (5 - k) hv0
      have hlw := has_lt hh
      have HSET := Lib.hid hset; clear hset hv0 hh
      have hk' : k = 0 ∨ k = 1 ∨ k = 2 ∨ k = 3 ∨ k = 4 ∨ k = 5 := by omega
      rcases hk' with rfl | rfl | rfl | rfl | rfl | rfl
      all_goals
        go_wp2
        go_roundw
        case rel => exact ⟨_, by omega, by go_num, by rw [HDM.out]; go_num, HSET.out, HB.out.setCell (Nat.le_refl _) _⟩
        case measure => simp [intOf]
    · have hk6 : k = 6 := by omega
      subst hk6
      have hlen : (lowD 6 x0).length = 6 := lowD_len 6 x0
      have hcv : (convert 22 9 (.slice (some ⟨w.heap.size, 0, none⟩) 6 6)).run Tryd.prog wr = .ok (.string (strOfNums (lowD 6 x0))) wr :=
        run_convert_bytes_arg wr _ _ Tryd.underlying22 Tryd.underlying5 w.heap.size 0 6 6 (lowD 6 x0) hlen (fun i hi => by
          rw [Nat.zero_add]
          refine has_cell hh i ?_
          have hil : i < (lowD 6 x0).length := by omega
          simp [rowD, List.getElem?_eq_getElem hil]) _ Tryd.underlying9
      have hlw := has_lt hh
      clear hh
      go_wp2
      go_ret
      exact ⟨rfl, HB.out⟩

/-- what the variable holds -/
def Rounds (w : World) : Prop := w.cell? ⟨0, 0, none⟩ = some (.int .i64 48271) ∧ w.cell? ⟨0, 1, none⟩ = some (.int .i64 48271) ∧ w.cell? ⟨0, 2, none⟩ = some (.int .i64 48271) ∧ 0 < w.heap.size
theorem Rounds.below {w w' : World} (h : Rounds w) (hb : Below w.heap.size w w') : Rounds w' :=
  ⟨(hb.cell h.2.2.2).trans h.1, (hb.cell h.2.2.2).trans h.2.1, (hb.cell h.2.2.2).trans h.2.2.1, Nat.lt_of_lt_of_le h.2.2.2 hb.size⟩

set_option maxRecDepth 100000 in
set_option maxHeartbeats 4000000 in
theorem codeI_any (w : World) (s c : Int) (hR : Rounds w) : Calls Tryd.prog 15 #[.int .i64 s, .int .i64 c] w fun e w' => e = .returned (.string (codeT s c)) ∧ Below w.heap.size w w' := by
  cases h1 : secB s
  · have HK := Lib.hid (codeT_no (s := s) (c := c) fun h => by rw [h1] at h; cases h.1)
    clear hR
    go_enter Tryd.func15, Tryd.ntmps15
    go_wp2_with (refine (secI_any _ _).mono ?_; rintro e w' ⟨rfl, rfl⟩; rw [h1])
    go_ret
    exact ⟨retv3 HK.out, Below.refl _ _⟩
  cases h2 : cntB3 c
  · have HK := Lib.hid (codeT_no (s := s) (c := c) fun h => by rw [h2] at h; cases h.2)
    clear hR
    go_enter Tryd.func15, Tryd.ntmps15
    go_wp2_with (first | (go_at_call 31; refine (secI_any _ _).mono ?_; rintro e w' ⟨rfl, rfl⟩; rw [h1]) | (refine (countI_any _ _).mono ?_; rintro e w' ⟨rfl, rfl⟩; rw [h2]))
    go_ret
    exact ⟨retv3 HK.out, Below.refl _ _⟩
  have HK := Lib.hid (codeT_at h1 h2)
  have g1 := secB_iff.1 h1
  have g2 := cntB3_iff.1 h2
  have hs := start3_bd s c
  unfold start3 at hs
  obtain ⟨a1, a2⟩ := g1
  obtain ⟨b1, b2⟩ := g2
  obtain ⟨d1, d2⟩ := hs
  obtain ⟨r0, r1, r2, r3⟩ := hR
  have i0 := Lib.hid (show ∀ W, (Instr.index 51 (.agg #[.int .i64 48271, .int .i64 48271, .int .i64 48271]) (.int .i64 0)).run Tryd.prog W = .ok (.int .i64 48271) W from fun W => by kernel_rfl)
  have i1 := Lib.hid (show ∀ W, (Instr.index 51 (.agg #[.int .i64 48271, .int .i64 48271, .int .i64 48271]) (.int .i64 1)).run Tryd.prog W = .ok (.int .i64 48271) W from fun W => by kernel_rfl)
  have i2 := Lib.hid (show ∀ W, (Instr.index 51 (.agg #[.int .i64 48271, .int .i64 48271, .int .i64 48271]) (.int .i64 2)).run Tryd.prog W = .ok (.int .i64 48271) W from fun W => by kernel_rfl)
  go_enter Tryd.func15, Tryd.ntmps15
  go_wp2_with (first | (go_at_call 31; refine (secI_any _ _).mono ?_; rintro e w' ⟨rfl, hw⟩; rw [hw, h1]; clear hw) | (refine (countI_any _ _).mono ?_; rintro e w' ⟨rfl, hw⟩; rw [hw, h2]; clear hw))
  clear h1 h2
  go_loopw [5, 22] (fun xv iv wr => ∃ k : Nat, k ≤ 3 ∧ iv = .int .i64 k ∧ xv = .int .i64 (iterX s c k) ∧ Below w.heap.size w wr) (fun _ iv _ => 3 - (intOf iv).toNat)
  case atStart => exact ⟨0, by omega, rfl, rfl, Below.refl _ _⟩
  case round =>
    obtain ⟨k, hk, rfl, rfl, hb0w⟩ := hrel
    have HBW := Lib.hid hb0w; clear hb0w
    clear r0 r1 r2 r3
    have hb := iterX_bd s c k
    obtain ⟨hb0, hb1⟩ := hb
    by_cases hlt : k < 3
    · have hm := mul1_bd (iterX s c k) hb0
      unfold mul1 at hm
      rw [Int.mul_comm] at hm
      obtain ⟨hm0, hm1⟩ := hm
      have HS := Lib.hid (show iterX s c (k + 1) = 48271 * iterX s c k % 2147483647 by rw [Int.mul_comm]; rfl)
      generalize iterX s c k = x at *
      have hk' : k = 0 ∨ k = 1 ∨ k = 2 := by omega
      rcases hk' with rfl | rfl | rfl
      all_goals
        first | rw [show ((0 : Nat) : Int) = 0 from rfl] | rw [show ((1 : Nat) : Int) = 1 from rfl] | rw [show ((2 : Nat) : Int) = 2 from rfl]
        have j0 := i0.out; have j1 := i1.out; have j2 := i2.out
        go_wp2
        go_roundw
        case rel => first | exact ⟨0 + 1, by omega, by go_num, by rw [HS.out], HBW.out⟩ | exact ⟨1 + 1, by omega, by go_num, by rw [HS.out], HBW.out⟩ | exact ⟨2 + 1, by omega, by go_num, by rw [HS.out], HBW.out⟩
        case measure => simp [intOf]
    · have hk3 : k = 3 := by omega
      subst hk3
      obtain ⟨x, hx⟩ := Int.eq_ofNat_of_zero_le hb0
      rw [hx] at hb1
      have HF := Lib.hid (show codeT s c = strOfNums (lowD 6 x) by rw [HK.out, hx]; rfl)
      clear HK
      rw [hx]
      clear hx
      go_wp2_with fail
      refine (lastD_any _ x (by omega)).mono ?_
      rintro e w1 ⟨rfl, hb1⟩
      have HB1 := Lib.hid (bthen HBW.out hb1); clear hb1
      go_wp2
      go_ret
      exact ⟨retv3 HF.out, HB1.out⟩
end Go.Proofs.YtjpafmkmpnibgabDoor
