
/- Chapter 2: contract of the model's ColumnOk. -/
import Derived.Test.YtjpkpfmpjgeeiaaGreatQ01
import Derived.Test.YtjpkpfmpjgeeiaaGreatQ02
namespace Go.Proofs.YtjpkpfmpjgeeiaaGreat
open Go.RowKit
set_option linter.unusedVariables false

theorem in_any (w : World) (x a b : Int) : Calls Tryz.prog 33 #[.int .i64 x, .int .i64 a, .int .i64 b] w fun e w' => e = .returned (.bool (inB x a b)) ∧ w' = w := by
  by_cases h0 : a ≤ x
  · by_cases h1 : x ≤ b
    · go_enter Tryz.func33, Tryz.ntmps33
      go_wp2
      go_ret
      exact ⟨ret_bool (by simp [inB, h0, h1]), rfl⟩
    · go_enter Tryz.func33, Tryz.ntmps33
      go_wp2
      go_ret
      exact ⟨ret_bool (by simp [inB]; omega), rfl⟩
  · go_enter Tryz.func33, Tryz.ntmps33
    go_wp2
    go_ret
    exact ⟨ret_bool (by simp [inB]; omega), rfl⟩

/-- what l02Boxes asks for -/
def BoxesP (h : Int) (L : List Bx) : Prop := BoxesTo L L.length ∧ lowAt L L.length = h ∧ Dis (L.map Bx.par)
theorem boxes_no_at {h : Int} {L : List Bx} {k : Nat} {x : Bx} (h24 : h ≤ 24) (hx : L[k]? = some x) (hbad : x.low ≠ lowAt L k ∨ inB x.size 1 24 = false ∨ inB x.par 0 999 = false) : ¬ BoxesP h L := by
  rintro ⟨h1, h2, h3⟩
  have hk : k < L.length := (List.getElem?_eq_some_iff.1 hx).1
  have hb := h1 k x hk hx
  have hs := size_le h1 h2 hx
  unfold BoxAt at hb
  rcases hbad with hh | hh | hh
  · exact hh hb.1
  · simp [inB] at hh; omega
  · simp [inB] at hh; omega
theorem boxes_no_sum {h : Int} {L : List Bx} {k : Nat} {x : Bx} (h24 : h ≤ 24) (hx : L[k]? = some x) (hbad : 24 < lowAt L (k + 1)) : ¬ BoxesP h L := by
  rintro ⟨h1, h2, h3⟩
  have hs := size_le h1 h2 hx
  omega
theorem boxes_no_dis {h : Int} {L : List Bx} {k j : Nat} {x y : Bx} (hx : L[k]? = some x) (hy : L[j]? = some y) (hj : j < k) (hp : 0 < x.par) (he : y.par = x.par) : ¬ BoxesP h L := by
  rintro ⟨h1, h2, h3⟩
  have h4 := dis_take h3 (k + 1)
  rw [pars_succ hx, dis_snoc] at h4
  refine h4.2 hp ?_
  rw [← he]
  exact List.mem_map.2 ⟨y, List.mem_of_getElem? (i := j) (by rw [List.getElem?_take, if_pos hj]; exact hy), rfl⟩
theorem dis_next {L : List Bx} {k : Nat} {x : Bx} (hx : L[k]? = some x) (hd : Dis ((L.take k).map Bx.par)) (hn : ∀ j y, j < k → L[j]? = some y → 0 < x.par → y.par ≠ x.par) : Dis ((L.take (k + 1)).map Bx.par) := by
  rw [pars_succ hx, dis_snoc]
  refine ⟨hd, fun hp hm => ?_⟩
  obtain ⟨y, hy, he⟩ := List.mem_map.1 hm
  obtain ⟨j, hj⟩ := List.getElem?_of_mem hy
  rw [List.getElem?_take] at hj
  split at hj
  · rename_i hjk; exact hn j y hjk hj hp he
  · cases hj

set_option maxHeartbeats 1000000 in
theorem boxesS_any (w : World) (B : Nat) (A A' : Option Addr) (n c c' : Nat) (h : Int) (L : List Bx) (hl : L.length ≤ maxLen) (hB : B ≤ w.heap.size) (hS : XL w B A' L) (h1 : 1 ≤ h) (h24 : h ≤ 24) :
    Calls Tryz.prog 135 #[.agg #[.int .i64 h, .slice A n c, .slice A' L.length c']] w (Tells (BoxesP h L) w) := by
  unfold maxLen at hl
  have hS0 := hS.later hB (balloc w (.cells #[.int .i64 h, .slice A n c, .slice A' L.length c'] 123))
  have HS := Lib.hid hS0; clear hS hS0
  go_enter Tryz.func135, Tryz.ntmps135
  go_wp2
  generalize hW0 : w.alloc (.cells #[.int .i64 h, .slice A n c, .slice A' L.length c'] 123) = w0 at *
  have hb0 : Below w.heap.size w w0 := by rw [← hW0]; exact balloc _ _
  have hc : Has w0 w.heap.size 123 #[.int .i64 h, .slice A n c, .slice A' L.length c'] := by rw [← hW0]; exact has_new _ _ _
  clear hW0
  have HC := Lib.hid hc; clear hc
  go_loopw [3, 4] (fun av i wr => ∃ (k : Nat), k ≤ L.length ∧ i = .int .i64 k ∧ av = .int .i64 (lowAt L k) ∧ 0 ≤ lowAt L k ∧ lowAt L k ≤ 24 ∧ BoxesTo L k ∧ Dis ((L.take k).map Bx.par) ∧ Below w0.heap.size w0 wr) (fun _ i _ => L.length - (intOf i).toNat)
  case atStart => exact ⟨0, Nat.zero_le _, rfl, rfl, by simp [lowAt], by simp [lowAt], fun k x hk => absurd hk (by omega), by simp [Dis], Below.refl _ _⟩
  case round =>
    obtain ⟨k, hk, rfl, rfl, hl0, hl24, hbt, hd, hb⟩ := hrel
    have HBT := Lib.hid hbt; clear hbt
    have HD := Lib.hid hd; clear hd
    have hsz := hb.size
    have hsz0 := hb0.size
    have hcw := has_call HC.out hb
    have e0 := has_cell hcw 0 rfl
    have e2 := has_cell hcw 2 rfl
    have hcb := has_lt hcw
    have HCW := Lib.hid hcw; clear hcw
    have hba : Below w.heap.size w wr := bthen hb0 hb
    by_cases hlt : k < L.length
    · obtain ⟨b, off, x, rfl, hbB, hx, hc0, hc1, hc2, hc3⟩ := (HS.out.later (by omega) hb).at_ hlt
      obtain ⟨x0, x1, x2, x3⟩ := x
      dsimp only at hc0 hc1 hc2 hc3
      have HX := Lib.hid hx; clear hx
      generalize hat : lowAt L k = at' at *
      have HAT := Lib.hid hat; clear hat
      have hbw : b < wr.heap.size := by omega
      by_cases q0 : x0 = at'
      · obtain rfl : at' = x0 := q0.symm
        have n0 : (at' != at') = false := by simp
        cases hi1 : inB x1 1 24
        · have HI1 := Lib.hid hi1; clear hi1
          go_wp2_with fail
          refine (in_any _ x1 1 24).mono ?_
          rintro e w1 ⟨rfl, rfl⟩
          rw [HI1.out]
          go_wp2_with fail
          go_ret
          exact tells_no (boxes_no_at h24 HX.out (.inr (.inl HI1.out))) (hba.alloc hba.size _)
        have hx1 : 1 ≤ x1 ∧ x1 ≤ 24 := by simpa [inB] using hi1
        have HI1 := Lib.hid hi1; clear hi1
        cases hi2 : inB x2 0 999
        · have HI2 := Lib.hid hi2; clear hi2
          go_wp2_with fail
          refine (in_any _ x1 1 24).mono ?_
          rintro e w1 ⟨rfl, rfl⟩
          rw [HI1.out]
          go_wp2_with fail
          refine (in_any _ x2 0 999).mono ?_
          rintro e w1 ⟨rfl, rfl⟩
          rw [HI2.out]
          go_wp2_with fail
          go_ret
          exact tells_no (boxes_no_at h24 HX.out (.inr (.inr HI2.out))) (hba.alloc hba.size _)
        have hx2 : 0 ≤ x2 ∧ x2 ≤ 999 := by simpa [inB] using hi2
        have HI2 := Lib.hid hi2; clear hi2
        obtain ⟨hx1a, hx1b⟩ := hx1
        obtain ⟨hx2a, hx2b⟩ := hx2
        go_wp2_with fail
        refine (in_any _ x1 1 24).mono ?_
        rintro e w1 ⟨rfl, rfl⟩
        rw [HI1.out]
        go_wp2_with fail
        refine (in_any _ x2 0 999).mono ?_
        rintro e w1 ⟨rfl, rfl⟩
        rw [HI2.out]
        go_wp2_with fail
        generalize hW1 : (wr.alloc (.cells #[.int .i64 at', .int .i64 x1, .int .i64 x2, .bool x3] 125)) = w1
        have bx : Below wr.heap.size wr w1 := by rw [← hW1]; exact balloc _ _
        have kx : Has w1 wr.heap.size 125 #[.int .i64 at', .int .i64 x1, .int .i64 x2, .bool x3] := by rw [← hW1]; exact has_new _ _ _
        clear hW1
        have k1 := has_call HCW.out bx
        have KX := Lib.hid kx; have K1 := Lib.hid k1; clear kx k1
        clear e0 e2 hc0 hc1 hc2 hc3
        go_loopw [6] (fun i wi => ∃ (j : Nat), j ≤ k ∧ i = .int .i64 j ∧ (∀ m y, m < j → L[m]? = some y → 0 < x2 → y.par ≠ x2) ∧ Below w1.heap.size w1 wi) (fun i _ => k - (intOf i).toNat)
        case atStart => exact ⟨0, Nat.zero_le _, rfl, fun m y hm => absurd hm (by omega), Below.refl _ _⟩
        case round =>
          obtain ⟨j, hj, rfl, hno, hbi⟩ := hrel
          have HNO := Lib.hid hno; clear hno
          have hbxi := bx.trans (hbi.mono bx.size)
          have hbi2 := bthen hba hbxi
          have kxi := has_call KX.out hbi
          have k1i := has_call K1.out hbi
          have g0 := has_cell k1i 0 rfl
          have g2 := has_cell k1i 2 rfl
          have y1 := has_cell kxi 1 rfl
          have y2 := has_cell kxi 2 rfl
          have KXI := Lib.hid kxi; have K1I := Lib.hid k1i; clear kxi k1i
          by_cases hjk : j < k
          · obtain ⟨b', off', y, hA', _, hy, d0, d1, d2, d3⟩ := (HS.out.later (by omega) (hb.trans (hbxi.mono hsz))).at_ (k := j) (by omega)
            obtain ⟨rfl, rfl⟩ : b = b' ∧ off = off' := by injection hA' with hA'; injection hA' with e1 e2; exact ⟨e1, e2⟩
            obtain ⟨y0, y1', y2', y3⟩ := y
            dsimp only at d0 d1 d2 d3
            have HY := Lib.hid hy; clear hy hA'
            by_cases hp : 0 < x2
            · have dp : decide (0 < x2) = true := by simpa using hp
              by_cases he : y2' = x2
              · subst he
                have de : (y2' == y2') = true := by simp
                go_wp2
                go_quiet (fail)
                go_wp2
                go_ret
                exact tells_no (boxes_no_dis HX.out HY.out hjk hp rfl) (below_drewN hbi2 _)
              · have de : (y2' == x2) = false := by simpa using he
                have hnx : ∀ m y, m < j + 1 → L[m]? = some y → 0 < x2 → y.par ≠ x2 := fun m y hm hy h0 => by
                  by_cases e : m = j
                  · subst e; rw [HY.out] at hy; injection hy with hy; subst hy; exact he
                  · exact HNO.out m y (by omega) hy h0
                have HNX := Lib.hid hnx; clear hnx he
                go_wp2
                go_quiet (fail)
                go_wp2
                go_roundw
                case rel => exact ⟨j + 1, by omega, by go_num, HNX.out, below_drewN hbi _⟩
                case measure => simp [intOf]; omega
            · have dp : decide (0 < x2) = false := by simpa using hp
              have hnx : ∀ m y, m < j + 1 → L[m]? = some y → 0 < x2 → y.par ≠ x2 := fun m y hm hy h0 => absurd h0 hp
              have HNX := Lib.hid hnx; clear hnx
              go_wp2
              go_quiet (fail)
              go_wp2
              go_roundw
              case rel => exact ⟨j + 1, by omega, by go_num, HNX.out, below_drewN hbi _⟩
              case measure => simp [intOf]; omega
          · have hjk' : j = k := by omega
            subst hjk'
            have hls := lowAt_succ HX.out
            dsimp only at hls
            rw [HAT.out] at hls
            have HLS := Lib.hid hls; clear hls
            by_cases q : 24 < at' + x1
            · go_wp2
              go_ret
              exact tells_no (boxes_no_sum h24 HX.out (by rw [HLS.out]; exact q)) hbi2
            · go_wp2
              go_roundw
              case rel => exact ⟨j + 1, by omega, by go_num, by rw [HLS.out], by rw [HLS.out]; omega, by rw [HLS.out]; omega, boxesTo_succ HBT.out HX.out ⟨HAT.out.symm, hx1a, hx2a, hx2b⟩, dis_next HX.out HD.out HNO.out, hb.trans (hbxi.mono hsz)⟩
              case measure => simp [intOf]; omega
      · have n0 : (x0 != at') = true := by simpa using q0
        go_wp2_with fail
        go_ret
        exact tells_no (boxes_no_at h24 HX.out (.inl (by rw [HAT.out]; exact q0))) (hba.alloc hba.size _)
    · have hkl : k = L.length := by omega
      subst hkl
      have hd := HD.out
      rw [List.take_length] at hd
      have HD' := Lib.hid hd; clear hd
      generalize hat : lowAt L L.length = at' at *
      have HAT := Lib.hid hat; clear hat
      by_cases q0 : 0 < L.length
      · have d0 : decide (0 < L.length) = true := by simpa using q0
        have d0' : decide ((0 : Int) < (L.length : Int)) = true := by simpa using q0
        by_cases q1 : at' = h
        · subst q1
          have d1 : (at' == at') = true := by simp
          go_wp2
          go_ret
          exact tells_yes ⟨HBT.out, HAT.out, HD'.out⟩ hba
        · have d1 : (at' == h) = false := by simpa using q1
          go_wp2
          go_ret
          exact tells_no (fun g => q1 (by rw [← HAT.out]; exact g.2.1)) hba
      · have hz : L.length = 0 := by omega
        have hz' : L = [] := List.eq_nil_of_length_eq_zero hz
        have hat0 : at' = 0 := by rw [← HAT.out, hz]; rfl
        have HZ := Lib.hid hz'; clear hz' hz
        have HA0 := Lib.hid hat0; clear hat0
        go_wp2
        go_ret
        exact tells_no (fun g => by have := g.2.1; rw [HAT.out, HA0.out] at this; omega) hba
end Go.Proofs.YtjpkpfmpjgeeiaaGreat
