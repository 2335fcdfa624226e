/- Chapter 2: contract of the model's ColumnOk. -/
import Derived.Test.YthfpjfekemelaaaQ02
import Derived.Test.YthfpjfekemelaaaQ04
import Derived.Deep.DeepMust
namespace Go.Proofs.Ythfpjfekemelaaa
open Go.RowKit
set_option linter.unusedVariables false

def inB (x a b : Int) : Bool := decide (a ≤ x) && decide (x ≤ b)
theorem in_any (w : World) (x a b : Int) : Calls Try.prog 34 #[.int .i64 x, .int .i64 a, .int .i64 b] w fun e w' => e = .returned (.bool (inB x a b)) ∧ w' = w := by
  by_cases h0 : a ≤ x
  · by_cases h1 : x ≤ b
    · go_enter Try.func34, Try.ntmps34
      go_wp2
      go_ret
      exact ⟨ret_bool (by simp [inB, h0, h1]), rfl⟩
    · go_enter Try.func34, Try.ntmps34
      go_wp2
      go_ret
      exact ⟨ret_bool (by simp [inB]; omega), rfl⟩
  · go_enter Try.func34, Try.ntmps34
    go_wp2
    go_ret
    exact ⟨ret_bool (by simp [inB]; omega), rfl⟩

/-- what l02Boxes asks for -/
def BoxesP (h : Int) (L : List Bx) : Prop := BoxesTo L L.length ∧ lowAt L L.length = h ∧ Dis (L.map Bx.par)
theorem boxes_no_at {h : Int} {L : List Bx} {k : Nat} {x : Bx} (h24 : h ≤ 24) (hx : L[k]? = some x) (hbad : x.low ≠ lowAt L k ∨ inB x.size 1 24 = false ∨ inB x.par 0 999 = false) : ¬ BoxesP h L := by
  rintro ⟨h1, h2, h3⟩
  have hk : k < L.length := (List.getElem?_eq_some_iff.1 hx).1
  have hb := h1 k x hk hx
  have hs := size_le h1 h2 hx
  unfold BoxAt at hb
  rcases hbad with hh | hh | hh
  · exact hh hb.1
  · simp [inB] at hh; omega
  · simp [inB] at hh; omega
theorem boxes_no_sum {h : Int} {L : List Bx} {k : Nat} {x : Bx} (h24 : h ≤ 24) (hx : L[k]? = some x) (hbad : 24 < lowAt L (k + 1)) : ¬ BoxesP h L := by
  rintro ⟨h1, h2, h3⟩
  have hs := size_le h1 h2 hx
  omega
theorem boxes_no_dis {h : Int} {L : List Bx} {k j : Nat} {x y : Bx} (hx : L[k]? = some x) (hy : L[j]? = some y) (hj : j < k) (hp : 0 < x.par) (he : y.par = x.par) : ¬ BoxesP h L := by
  rintro ⟨h1, h2, h3⟩
  have h4 := dis_take h3 (k + 1)
  rw [pars_succ hx, dis_snoc] at h4
  refine h4.2 hp ?_
  rw [← he]
  exact List.mem_map.2 ⟨y, List.mem_of_getElem? (i := j) (by rw [List.getElem?_take, if_pos hj]; exact hy), rfl⟩
theorem dis_next {L : List Bx} {k : Nat} {x : Bx} (hx : L[k]? = some x) (hd : Dis ((L.take k).map Bx.par)) (hn : ∀ j y, j < k → L[j]? = some y → 0 < x.par → y.par ≠ x.par) : Dis ((L.take (k + 1)).map Bx.par) := by
  rw [pars_succ hx, dis_snoc]
  refine ⟨hd, fun hp hm => ?_⟩
  obtain ⟨y, hy, he⟩ := List.mem_map.1 hm
  obtain ⟨j, hj⟩ := List.getElem?_of_mem hy
  rw [List.getElem?_take] at hj
  split at hj
  · rename_i hjk; exact hn j y hjk hj hp he
  · cases hj

set_option maxHeartbeats 1000000 in
theorem boxesS_any (w : World) (B : Nat) (A A' : Option Addr) (n c c' : Nat) (h : Int) (L : List Bx) (hl : L.length ≤ maxLen) (hB : B ≤ w.heap.size) (hS : XL w B A' L) (h1 : 1 ≤ h) (h24 : h ≤ 24) :
    Calls Try.prog 65 #[.agg #[.int .i64 h, .slice A n c, .slice A' L.length c']] w (Tells (BoxesP h L) w) := by
  unfold maxLen at hl
  have hS0 := hS.later hB (balloc w (.cells #[.int .i64 h, .slice A n c, .slice A' L.length c'] 57))
  have HS := Lib.hid hS0; clear hS hS0
  go_enter Try.func65, Try.ntmps65
  go_wp2
  generalize hW0 : w.alloc (.cells #[.int .i64 h, .slice A n c, .slice A' L.length c'] 57) = w0 at *
  have hb0 : Below w.heap.size w w0 := by rw [← hW0]; exact balloc _ _
  have hc : Has w0 w.heap.size 57 #[.int .i64 h, .slice A n c, .slice A' L.length c'] := by rw [← hW0]; exact has_new _ _ _
  clear hW0
  have HC := Lib.hid hc; clear hc
  go_loopw [3, 4] (fun av i wr => ∃ (k : Nat), k ≤ L.length ∧ i = .int .i64 k ∧ av = .int .i64 (lowAt L k) ∧ 0 ≤ lowAt L k ∧ lowAt L k ≤ 24 ∧ BoxesTo L k ∧ Dis ((L.take k).map Bx.par) ∧ Below w0.heap.size w0 wr) (fun _ i _ => L.length - (intOf i).toNat)
  case atStart => exact ⟨0, Nat.zero_le _, rfl, rfl, by simp [lowAt], by simp [lowAt], fun k x hk => absurd hk (by omega), by simp [Dis], Below.refl _ _⟩
  case round =>
    obtain ⟨k, hk, rfl, rfl, hl0, hl24, hbt, hd, hb⟩ := hrel
    have HBT := Lib.hid hbt; clear hbt
    have HD := Lib.hid hd; clear hd
    have hsz := hb.size
    have hsz0 := hb0.size
    have hcw := has_call HC.out hb
    have e0 := has_cell hcw 0 rfl
    have e2 := has_cell hcw 2 rfl
    have hcb := has_lt hcw
    have HCW := Lib.hid hcw; clear hcw
    have hba : Below w.heap.size w wr := bthen hb0 hb
    by_cases hlt : k < L.length
    · obtain ⟨b, off, x, rfl, hbB, hx, hc0, hc1, hc2, hc3⟩ := (HS.out.later (by omega) hb).at_ hlt
      obtain ⟨x0, x1, x2, x3⟩ := x
      dsimp only at hc0 hc1 hc2 hc3
      have HX := Lib.hid hx; clear hx
      generalize hat : lowAt L k = at' at *
      have HAT := Lib.hid hat; clear hat
      have hbw : b < wr.heap.size := by omega
      by_cases q0 : x0 = at'
      · obtain rfl : at' = x0 := q0.symm
        have n0 : (at' != at') = false := by simp
        cases hi1 : inB x1 1 24
        · have HI1 := Lib.hid hi1; clear hi1
          go_wp2_with fail
          refine (in_any _ x1 1 24).mono ?_
          rintro e w1 ⟨rfl, rfl⟩
          rw [HI1.out]
          go_wp2_with fail
          go_ret
          exact tells_no (boxes_no_at h24 HX.out (.inr (.inl HI1.out))) (hba.alloc hba.size _)
        have hx1 : 1 ≤ x1 ∧ x1 ≤ 24 := by simpa [inB] using hi1
        have HI1 := Lib.hid hi1; clear hi1
        cases hi2 : inB x2 0 999
        · have HI2 := Lib.hid hi2; clear hi2
          go_wp2_with fail
          refine (in_any _ x1 1 24).mono ?_
          rintro e w1 ⟨rfl, rfl⟩
          rw [HI1.out]
          go_wp2_with fail
          refine (in_any _ x2 0 999).mono ?_
          rintro e w1 ⟨rfl, rfl⟩
          rw [HI2.out]
          go_wp2_with fail
          go_ret
          exact tells_no (boxes_no_at h24 HX.out (.inr (.inr HI2.out))) (hba.alloc hba.size _)
        have hx2 : 0 ≤ x2 ∧ x2 ≤ 999 := by simpa [inB] using hi2
        have HI2 := Lib.hid hi2; clear hi2
        obtain ⟨hx1a, hx1b⟩ := hx1
        obtain ⟨hx2a, hx2b⟩ := hx2
        go_wp2_with fail
        refine (in_any _ x1 1 24).mono ?_
        rintro e w1 ⟨rfl, rfl⟩
        rw [HI1.out]
        go_wp2_with fail
        refine (in_any _ x2 0 999).mono ?_
        rintro e w1 ⟨rfl, rfl⟩
        rw [HI2.out]
        go_wp2_with fail
        generalize hW1 : (wr.alloc (.cells #[.int .i64 at', .int .i64 x1, .int .i64 x2, .bool x3] 65)) = w1
        have bx : Below wr.heap.size wr w1 := by rw [← hW1]; exact balloc _ _
        have kx : Has w1 wr.heap.size 65 #[.int .i64 at', .int .i64 x1, .int .i64 x2, .bool x3] := by rw [← hW1]; exact has_new _ _ _
        clear hW1
        have k1 := has_call HCW.out bx
        have KX := Lib.hid kx; have K1 := Lib.hid k1; clear kx k1
        clear e0 e2 hc0 hc1 hc2 hc3
        go_loopw [6] (fun i wi => ∃ (j : Nat), j ≤ k ∧ i = .int .i64 j ∧ (∀ m y, m < j → L[m]? = some y → 0 < x2 → y.par ≠ x2) ∧ Below w1.heap.size w1 wi) (fun i _ => k - (intOf i).toNat)
        case atStart => exact ⟨0, Nat.zero_le _, rfl, fun m y hm => absurd hm (by omega), Below.refl _ _⟩
        case round =>
          obtain ⟨j, hj, rfl, hno, hbi⟩ := hrel
          have HNO := Lib.hid hno; clear hno
          have hbxi := bx.trans (hbi.mono bx.size)
          have hbi2 := bthen hba hbxi
          have kxi := has_call KX.out hbi
          have k1i := has_call K1.out hbi
          have g0 := has_cell k1i 0 rfl
          have g2 := has_cell k1i 2 rfl
          have y1 := has_cell kxi 1 rfl
          have y2 := has_cell kxi 2 rfl
          have KXI := Lib.hid kxi; have K1I := Lib.hid k1i; clear kxi k1i
          by_cases hjk : j < k
          · obtain ⟨b', off', y, hA', _, hy, d0, d1, d2, d3⟩ := (HS.out.later (by omega) (hb.trans (hbxi.mono hsz))).at_ (k := j) (by omega)
            obtain ⟨rfl, rfl⟩ : b = b' ∧ off = off' := by injection hA' with hA'; injection hA' with e1 e2; exact ⟨e1, e2⟩
            obtain ⟨y0, y1', y2', y3⟩ := y
            dsimp only at d0 d1 d2 d3
            have HY := Lib.hid hy; clear hy hA'
            by_cases hp : 0 < x2
            · have dp : decide (0 < x2) = true := by simpa using hp
              by_cases he : y2' = x2
              · subst he
                have de : (y2' == y2') = true := by simp
                go_wp2
                go_quiet (fail)
                go_wp2
                go_ret
                exact tells_no (boxes_no_dis HX.out HY.out hjk hp rfl) (below_drewN hbi2 _)
              · have de : (y2' == x2) = false := by simpa using he
                have hnx : ∀ m y, m < j + 1 → L[m]? = some y → 0 < x2 → y.par ≠ x2 := fun m y hm hy h0 => by
                  by_cases e : m = j
                  · subst e; rw [HY.out] at hy; injection hy with hy; subst hy; exact he
                  · exact HNO.out m y (by omega) hy h0
                have HNX := Lib.hid hnx; clear hnx he
                go_wp2
                go_quiet (fail)
                go_wp2
                go_roundw
                case rel => exact ⟨j + 1, by omega, by go_num, HNX.out, below_drewN hbi _⟩
                case measure => simp [intOf]; omega
            · have dp : decide (0 < x2) = false := by simpa using hp
              have hnx : ∀ m y, m < j + 1 → L[m]? = some y → 0 < x2 → y.par ≠ x2 := fun m y hm hy h0 => absurd h0 hp
              have HNX := Lib.hid hnx; clear hnx
              go_wp2
              go_quiet (fail)
              go_wp2
              go_roundw
              case rel => exact ⟨j + 1, by omega, by go_num, HNX.out, below_drewN hbi _⟩
              case measure => simp [intOf]; omega
          · have hjk' : j = k := by omega
            subst hjk'
            have hls := lowAt_succ HX.out
            dsimp only at hls
            rw [HAT.out] at hls
            have HLS := Lib.hid hls; clear hls
            by_cases q : 24 < at' + x1
            · go_wp2
              go_ret
              exact tells_no (boxes_no_sum h24 HX.out (by rw [HLS.out]; exact q)) hbi2
            · go_wp2
              go_roundw
              case rel => exact ⟨j + 1, by omega, by go_num, by rw [HLS.out], by rw [HLS.out]; omega, by rw [HLS.out]; omega, boxesTo_succ HBT.out HX.out ⟨HAT.out.symm, hx1a, hx2a, hx2b⟩, dis_next HX.out HD.out HNO.out, hb.trans (hbxi.mono hsz)⟩
              case measure => simp [intOf]; omega
      · have n0 : (x0 != at') = true := by simpa using q0
        go_wp2_with fail
        go_ret
        exact tells_no (boxes_no_at h24 HX.out (.inl (by rw [HAT.out]; exact q0))) (hba.alloc hba.size _)
    · have hkl : k = L.length := by omega
      subst hkl
      have hd := HD.out
      rw [List.take_length] at hd
      have HD' := Lib.hid hd; clear hd
      generalize hat : lowAt L L.length = at' at *
      have HAT := Lib.hid hat; clear hat
      by_cases q0 : 0 < L.length
      · have d0 : decide (0 < L.length) = true := by simpa using q0
        have d0' : decide ((0 : Int) < (L.length : Int)) = true := by simpa using q0
        by_cases q1 : at' = h
        · subst q1
          have d1 : (at' == at') = true := by simp
          go_wp2
          go_ret
          exact tells_yes ⟨HBT.out, HAT.out, HD'.out⟩ hba
        · have d1 : (at' == h) = false := by simpa using q1
          go_wp2
          go_ret
          exact tells_no (fun g => q1 (by rw [← HAT.out]; exact g.2.1)) hba
      · have hz : L.length = 0 := by omega
        have hz' : L = [] := List.eq_nil_of_length_eq_zero hz
        have hat0 : at' = 0 := by rw [← HAT.out, hz]; rfl
        have HZ := Lib.hid hz'; clear hz' hz
        have HA0 := Lib.hid hat0; clear hat0
        go_wp2
        go_ret
        exact tells_no (fun g => by have := g.2.1; rw [HAT.out, HA0.out] at this; omega) hba
end Go.Proofs.Ythfpjfekemelaaa
namespace Go.Proofs.Ythfpjfekemelaaa
open Go.RowKit
set_option linter.unusedVariables false

def WallsTo (F : List Int) (L : List Bx) (n : Nat) : Prop := ∀ j x, j < n → F[j]? = some x → ∃ b ∈ L, b.low = x
theorem wallsT_succ {F : List Int} {L : List Bx} {n : Nat} {x : Int} (h : WallsTo F L n) (hx : F[n]? = some x) (hb : ∃ b ∈ L, b.low = x) : WallsTo F L (n + 1) := fun j y hj hy => by
  by_cases e : j = n
  · subst e; rw [hx] at hy; injection hy with hy; subst hy; exact hb
  · exact h j y (by omega) hy
theorem inFix_no {h : Int} {F : List Int} {L : List Bx} {k : Nat} {x : Int} (hx : F[k]? = some x) (hi : inB x 1 (h - 1) = false) : ¬ ColOk h F L := fun g => by
  have := g.fix.fix k x hx
  simp [inB] at hi; omega
theorem col_done {h : Int} {F : List Int} {L : List Bx} (h1 : 1 ≤ h) (h24 : h ≤ 24) (hb : BoxesP h L) (hf : FixTo h F F.length) (hw : WallsTo F L F.length) : ColOk h F L :=
  ⟨fix_done h1 h24 hf, hb.1, hb.2.1, fun x hx => by
    obtain ⟨j, hj⟩ := List.getElem?_of_mem hx
    exact hw j x (List.getElem?_eq_some_iff.1 hj).1 hj, hb.2.2⟩

theorem prevI_nonneg {z : Int} {F : List Int} {k : Nat} (h : FixTo z F k) (hk : k ≤ F.length) : 0 ≤ prevI F k := by
  rcases k with _ | m
  · simp [prevI]
  · have hm : F[m]? = some F[m] := List.getElem?_eq_getElem (by omega)
    rw [prev_next hm]
    have := (h.fix m _ (by omega) hm).1
    omega
set_option maxHeartbeats 1000000 in
theorem colS_any (w : World) (B : Nat) (x : Cl) (hB : B ≤ w.heap.size) (hV : CV w B x) :
    Calls Try.prog 39 #[.agg #[.int .i64 x.z, .slice x.AF x.F.length x.cF, .slice x.AB x.L.length x.cB]] w (Tells (ColOk x.z x.F x.L) w) := by
  obtain ⟨z, AF, F, cF, AB, L, cB⟩ := x
  have HV := Lib.hid hV; clear hV
  dsimp only
  cases hi0 : inB z 1 24
  · have HI0 := Lib.hid hi0
    have hz0 : ¬ (1 ≤ z ∧ z ≤ 24) := by intro g; simp [inB] at hi0; omega
    clear hi0
    go_enter Try.func39, Try.ntmps39
    go_wp2_with fail
    refine (in_any _ z 1 24).mono ?_
    rintro e w1 ⟨rfl, rfl⟩
    rw [HI0.out]
    go_wp2_with fail
    go_ret
    exact tells_no (fun g => hz0 ⟨g.fix.lo, g.fix.hi⟩) (balloc _ _)
  have HI0 := Lib.hid hi0
  have hz0 : 1 ≤ z ∧ z ≤ 24 := by simp [inB] at hi0; omega
  clear hi0
  obtain ⟨hz1, hz24⟩ := hz0
  go_enter Try.func39, Try.ntmps39
  go_wp2_with fail
  refine (in_any _ z 1 24).mono ?_
  rintro e w1 ⟨rfl, rfl⟩
  rw [HI0.out]
  go_wp2_with fail
  generalize hW0 : w.alloc (.cells #[.int .i64 z, .slice AF F.length cF, .slice AB L.length cB] 57) = w0 at *
  have b0 : Below w.heap.size w w0 := by rw [← hW0]; exact balloc _ _
  have k0 : Has w0 w.heap.size 57 #[.int .i64 z, .slice AF F.length cF, .slice AB L.length cB] := by rw [← hW0]; exact has_new _ _ _
  clear hW0
  have K0 := Lib.hid k0; clear k0
  have v0 := HV.out.later hB b0
  refine (boxesS_any w0 B AF AB F.length cF cB z L v0.lb (by have := b0.size; omega) v0.b hz1 hz24).mono ?_
  rintro e w1 ⟨b1, rfl, hb1, hw1⟩
  have HB1 := Lib.hid hb1; clear hb1
  clear v0
  have c1 := bthen b0 hw1
  cases b1
  · go_wp2_with fail
    go_ret
    exact tells_no (fun g => by have := HB1.out.2 ⟨g.box, g.top, g.diff⟩; simp at this) c1
  have hbox := HB1.out.1 rfl
  have HBOX := Lib.hid hbox; clear hbox HB1
  have hlf := HV.out.lf
  have hlb := HV.out.lb
  unfold maxLen at hlf hlb
  dsimp only at hlf hlb
  have k1 := has_call K0.out hw1
  have K1 := Lib.hid k1; clear k1
  go_wp2
  go_loopw [3] (fun i wr => ∃ (k : Nat), k ≤ F.length ∧ i = .int .i64 k ∧ FixTo z F k ∧ WallsTo F L k ∧ Below w1.heap.size w1 wr) (fun i _ => F.length - (intOf i).toNat)
  case atStart => exact ⟨0, Nat.zero_le _, rfl, fixTo_zero _ _, fun j x hj => absurd hj (by omega), Below.refl _ _⟩
  case round =>
    obtain ⟨k, hk, rfl, hF, hW, hb⟩ := hrel
    have HF := Lib.hid hF; have HW := Lib.hid hW; clear hF hW
    have cw := bthen c1 hb
    have kw := has_call K1.out hb
    have e0 := has_cell kw 0 rfl
    have e1 := has_cell kw 1 rfl
    have hsc := has_lt kw
    have KW := Lib.hid kw; clear kw
    by_cases hlt : k < F.length
    · obtain ⟨b, off, x, hAF, hbB, hx, hc0⟩ := (HV.out.f.later hB cw).at_ hlt
      dsimp only at hAF
      subst hAF
      have hbw : b < wr.heap.size := by have := cw.size; omega
      have HX := Lib.hid hx; clear hx
      cases hi : inB x 1 (z - 1)
      · have hq : ∀ W, Calls Try.prog 34 #[.int .i64 x, .int .i64 1, .int .i64 (z - 1)] W fun e w' => e = .returned (.bool false) ∧ w' = W := fun W => by rw [← hi]; exact in_any W x 1 (z - 1)
        have HQ := Lib.hid hq; clear hq
        have HI := Lib.hid hi; clear hi
        rcases k with _ | m
        · have hc0' : wr.cell? ⟨b, off, none⟩ = some (.int .i64 x) := by simpa using hc0
          clear hc0
          go_wp2_with fail
          go_big_quiet (exact Calls.quiet_of_same (HQ.out _))
          go_wp2_with fail
          go_ret
          exact tells_no (inFix_no HX.out HI.out) (below_drewN cw _)
        · go_wp2_with fail
          go_big_quiet (exact Calls.quiet_of_same (HQ.out _))
          go_wp2_with fail
          go_ret
          exact tells_no (inFix_no HX.out HI.out) (below_drewN cw _)
      have hq : ∀ W, Calls Try.prog 34 #[.int .i64 x, .int .i64 1, .int .i64 (z - 1)] W fun e w' => e = .returned (.bool true) ∧ w' = W := fun W => by rw [← hi]; exact in_any W x 1 (z - 1)
      have hxr : 1 ≤ x ∧ x < z := by simp [inB] at hi; omega
      have HQ := Lib.hid hq; clear hq hi
      obtain ⟨hx1, hxz⟩ := hxr
      by_cases hprev : prevI F k < x
      · have HPV := Lib.hid hprev; clear hprev
        have hpv0 := Lib.hid (prevI_nonneg HF.out hk)
        rcases k with _ | m
        · have hc0' : wr.cell? ⟨b, off, none⟩ = some (.int .i64 x) := by simpa using hc0
          have hcx0 := Lib.hid hc0'
          clear hc0
          have hbw0 := Lib.hid hbw
          go_wp2_with fail
          go_big_quiet (exact Calls.quiet_of_same (HQ.out _))
          clear e0 e1 hc0'
          go_wp2
          go_loopw [4, 5] (fun fv i wi => ∃ (j : Nat) (q : Bool), j ≤ L.length ∧ i = .int .i64 j ∧ fv = .bool q ∧ (q = true ↔ ∃ n y, n < j ∧ L[n]? = some y ∧ y.low = x) ∧ Below wr.heap.size wr wi) (fun _ i _ => L.length - (intOf i).toNat)
          case atStart => exact ⟨0, false, Nat.zero_le _, rfl, rfl, by simp, below_drewN (Below.refl _ _) _⟩
          case round =>
            obtain ⟨j, q, hj, rfl, rfl, hq, hbi⟩ := hrel
            have HQI := Lib.hid hq; clear hq
            have hbi2 := bthen cw hbi
            have kwi := has_call KW.out hbi
            have g0 := has_cell kwi 0 rfl
            have g1 := has_cell kwi 1 rfl
            have g2 := has_cell kwi 2 rfl
            have KWI := Lib.hid kwi; clear kwi
            have hcx : wr.cell? ⟨b, off, none⟩ = some (.int .i64 x) := (hbi.cell (p := ⟨b, off, none⟩) hbw0.out).trans hcx0.out
            by_cases hjl : j < L.length
            · obtain ⟨b2, off2, y, hAB, hb2B, hy, d0, d1, d2, d3⟩ := (HV.out.b.later hB hbi2).at_ hjl
              dsimp only at hAB
              subst hAB
              obtain ⟨y0, y1, y2, y3⟩ := y
              dsimp only at d0 d1 d2 d3
              have HY := Lib.hid hy; clear hy
              cases q
              · by_cases he : y0 = x
                · have hnx : (true = true ↔ ∃ n y, n < j + 1 ∧ L[n]? = some y ∧ y.low = x) := ⟨fun _ => ⟨j, _, by omega, HY.out, he⟩, fun _ => rfl⟩
                  have HNX := Lib.hid hnx; clear hnx
                  subst he
                  have de : (y0 == y0) = true := by simp
                  go_wp2
                  go_quiet (fail)
                  go_wp2
                  go_roundw
                  case rel => exact ⟨j + 1, true, by omega, by go_num, rfl, by simpa using HNX.out, below_drewN hbi _⟩
                  case measure => simp [intOf]; omega
                · have hnx : (false = true ↔ ∃ n y, n < j + 1 ∧ L[n]? = some y ∧ y.low = x) := by
                    constructor
                    · intro h; cases h
                    · rintro ⟨n, y, hn, hy, hyx⟩
                      by_cases e : n = j
                      · subst e; rw [HY.out] at hy; injection hy with hy; subst hy; exact absurd hyx he
                      · exact HQI.out.2 ⟨n, y, by omega, hy, hyx⟩
                  have HNX := Lib.hid hnx; clear hnx
                  have de : (y0 == x) = false := by simpa using he
                  clear he
                  go_wp2
                  go_quiet (fail)
                  go_wp2
                  go_roundw
                  case rel => exact ⟨j + 1, false, by omega, by go_num, rfl, by simpa using HNX.out, below_drewN hbi _⟩
                  case measure => simp [intOf]; omega
              · have hnx : (true = true ↔ ∃ n y, n < j + 1 ∧ L[n]? = some y ∧ y.low = x) := ⟨fun _ => by
                  obtain ⟨n, y, hn, hy, hyx⟩ := HQI.out.1 rfl
                  exact ⟨n, y, by omega, hy, hyx⟩, fun _ => rfl⟩
                have HNX := Lib.hid hnx; clear hnx
                go_wp2
                go_quiet (fail)
                go_wp2
                go_roundw
                case rel => exact ⟨j + 1, true, by omega, by go_num, rfl, by simpa using HNX.out, below_drewN hbi _⟩
                case measure => simp [intOf]; omega
            · have hjl' : j = L.length := by omega
              subst hjl'
              cases q
              · go_wp2
                go_ret
                refine tells_no (fun g => ?_) hbi2
                obtain ⟨y, hy, hyx⟩ := g.wall x (List.mem_of_getElem? HX.out)
                obtain ⟨n, hn⟩ := List.getElem?_of_mem hy
                have := HQI.out.2 ⟨n, y, (List.getElem?_eq_some_iff.1 hn).1, hn, hyx⟩
                simp at this
              · go_wp2
                go_roundw
                case rel => exact ⟨0 + 1, by omega, by go_num, fixTo_next HF.out HX.out HPV.out hxz hpv0.out, wallsT_succ HW.out HX.out (by
                  obtain ⟨n, y, hn, hy, hyx⟩ := HQI.out.1 (by trivial)
                  exact ⟨y, List.mem_of_getElem? hy, hyx⟩), hb.trans (hbi.mono hb.size)⟩
                case measure => simp [intOf]; omega
        · obtain ⟨b', off', p, hA', _, hp, hcp⟩ := (HV.out.f.later hB cw).at_ (k := m) (by show m < F.length; omega)
          obtain ⟨rfl, rfl⟩ : b = b' ∧ off = off' := by injection hA' with hA'; injection hA' with e1 e2; exact ⟨e1, e2⟩
          have hpp := HPV.out
          rw [prev_next hp] at hpp
          have HP := Lib.hid hp; clear hp hA'
          have hd : decide (x ≤ p) = false := by simp; omega
          have hd0 : decide (0 < (m : Int) + 1) = true := by rw [decide_eq_true_iff]; omega
          have wk : IntKind.i64.wrap (m : Int) = m := IntWalk.i64_in _ (by omega)
          have hcx0 := Lib.hid hc0
          have hbw0 := Lib.hid hbw
          go_wp2_with fail
          go_big_quiet (exact Calls.quiet_of_same (HQ.out _))
          clear e0 e1 hc0 hcp wk
          go_wp2
          go_loopw [4, 5] (fun fv i wi => ∃ (j : Nat) (q : Bool), j ≤ L.length ∧ i = .int .i64 j ∧ fv = .bool q ∧ (q = true ↔ ∃ n y, n < j ∧ L[n]? = some y ∧ y.low = x) ∧ Below wr.heap.size wr wi) (fun _ i _ => L.length - (intOf i).toNat)
          case atStart => exact ⟨0, false, Nat.zero_le _, rfl, rfl, by simp, below_drewN (Below.refl _ _) _⟩
          case round =>
            obtain ⟨j, q, hj, rfl, rfl, hq, hbi⟩ := hrel
            have HQI := Lib.hid hq; clear hq
            have hbi2 := bthen cw hbi
            have kwi := has_call KW.out hbi
            have g0 := has_cell kwi 0 rfl
            have g1 := has_cell kwi 1 rfl
            have g2 := has_cell kwi 2 rfl
            have KWI := Lib.hid kwi; clear kwi
            have hcx : wr.cell? ⟨b, off + (m + 1), none⟩ = some (.int .i64 x) := (hbi.cell (p := ⟨b, off + (m + 1), none⟩) hbw0.out).trans hcx0.out
            by_cases hjl : j < L.length
            · obtain ⟨b2, off2, y, hAB, hb2B, hy, d0, d1, d2, d3⟩ := (HV.out.b.later hB hbi2).at_ hjl
              dsimp only at hAB
              subst hAB
              obtain ⟨y0, y1, y2, y3⟩ := y
              dsimp only at d0 d1 d2 d3
              have HY := Lib.hid hy; clear hy
              cases q
              · by_cases he : y0 = x
                · have hnx : (true = true ↔ ∃ n y, n < j + 1 ∧ L[n]? = some y ∧ y.low = x) := ⟨fun _ => ⟨j, _, by omega, HY.out, he⟩, fun _ => rfl⟩
                  have HNX := Lib.hid hnx; clear hnx
                  subst he
                  have de : (y0 == y0) = true := by simp
                  go_wp2
                  go_quiet (fail)
                  go_wp2
                  go_roundw
                  case rel => exact ⟨j + 1, true, by omega, by go_num, rfl, by simpa using HNX.out, below_drewN hbi _⟩
                  case measure => simp [intOf]; omega
                · have hnx : (false = true ↔ ∃ n y, n < j + 1 ∧ L[n]? = some y ∧ y.low = x) := by
                    constructor
                    · intro h; cases h
                    · rintro ⟨n, y, hn, hy, hyx⟩
                      by_cases e : n = j
                      · subst e; rw [HY.out] at hy; injection hy with hy; subst hy; exact absurd hyx he
                      · exact HQI.out.2 ⟨n, y, by omega, hy, hyx⟩
                  have HNX := Lib.hid hnx; clear hnx
                  have de : (y0 == x) = false := by simpa using he
                  clear he
                  go_wp2
                  go_quiet (fail)
                  go_wp2
                  go_roundw
                  case rel => exact ⟨j + 1, false, by omega, by go_num, rfl, by simpa using HNX.out, below_drewN hbi _⟩
                  case measure => simp [intOf]; omega
              · have hnx : (true = true ↔ ∃ n y, n < j + 1 ∧ L[n]? = some y ∧ y.low = x) := ⟨fun _ => by
                  obtain ⟨n, y, hn, hy, hyx⟩ := HQI.out.1 rfl
                  exact ⟨n, y, by omega, hy, hyx⟩, fun _ => rfl⟩
                have HNX := Lib.hid hnx; clear hnx
                go_wp2
                go_quiet (fail)
                go_wp2
                go_roundw
                case rel => exact ⟨j + 1, true, by omega, by go_num, rfl, by simpa using HNX.out, below_drewN hbi _⟩
                case measure => simp [intOf]; omega
            · have hjl' : j = L.length := by omega
              subst hjl'
              cases q
              · go_wp2
                go_ret
                refine tells_no (fun g => ?_) hbi2
                obtain ⟨y, hy, hyx⟩ := g.wall x (List.mem_of_getElem? HX.out)
                obtain ⟨n, hn⟩ := List.getElem?_of_mem hy
                have := HQI.out.2 ⟨n, y, (List.getElem?_eq_some_iff.1 hn).1, hn, hyx⟩
                simp at this
              · go_wp2
                go_roundw
                case rel => exact ⟨m + 1 + 1, by omega, by go_num, fixTo_next HF.out HX.out HPV.out hxz hpv0.out, wallsT_succ HW.out HX.out (by
                  obtain ⟨n, y, hn, hy, hyx⟩ := HQI.out.1 (by trivial)
                  exact ⟨y, List.mem_of_getElem? hy, hyx⟩), hb.trans (hbi.mono hb.size)⟩
                case measure => simp [intOf]; omega
      · rcases k with _ | m
        · exact absurd (show prevI F 0 < x by simp only [prevI]; omega) hprev
        · obtain ⟨b', off', p, hA', _, hp, hcp⟩ := (HV.out.f.later hB cw).at_ (k := m) (by show m < F.length; omega)
          obtain ⟨rfl, rfl⟩ : b = b' ∧ off = off' := by injection hA' with hA'; injection hA' with e1 e2; exact ⟨e1, e2⟩
          rw [prev_next hp] at hprev
          have HP := Lib.hid hp; clear hp hA'
          have hd : decide (x ≤ p) = true := by simp; omega
          have hd0 : decide (0 < (m : Int) + 1) = true := by rw [decide_eq_true_iff]; omega
          have wk : IntKind.i64.wrap (m : Int) = m := IntWalk.i64_in _ (by omega)
          go_wp2_with fail
          go_big_quiet (exact Calls.quiet_of_same (HQ.out _))
          go_wp2_with fail
          go_ret
          exact tells_no (fun g => fix_no HX.out (.inl (by rw [prev_next HP.out]; omega)) g.fix) (below_drewN cw _)
    · go_wp2
      go_ret
      have hkl : k = F.length := by omega
      subst hkl
      exact tells_yes (col_done hz1 hz24 HBOX.out HF.out HW.out) cw
end Go.Proofs.Ythfpjfekemelaaa
