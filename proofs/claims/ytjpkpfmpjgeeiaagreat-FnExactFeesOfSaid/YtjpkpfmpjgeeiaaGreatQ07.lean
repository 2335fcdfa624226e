
/- Chapter 2: contract of the model's ColumnOk. -/
import Derived.Test.YtjpkpfmpjgeeiaaGreatQ06
import Derived.Test.YtjpkpfmpjgeeiaaGreatQ05
import Derived.Deep.DeepMust
namespace Go.Proofs.YtjpkpfmpjgeeiaaGreat
open Go.RowKit
set_option linter.unusedVariables false

def WallsTo (F : List Int) (L : List Bx) (n : Nat) : Prop := ∀ j x, j < n → F[j]? = some x → ∃ b ∈ L, b.low = x
theorem wallsT_succ {F : List Int} {L : List Bx} {n : Nat} {x : Int} (h : WallsTo F L n) (hx : F[n]? = some x) (hb : ∃ b ∈ L, b.low = x) : WallsTo F L (n + 1) := fun j y hj hy => by
  by_cases e : j = n
  · subst e; rw [hx] at hy; injection hy with hy; subst hy; exact hb
  · exact h j y (by omega) hy
theorem inFix_no {h : Int} {F : List Int} {L : List Bx} {k : Nat} {x : Int} (hx : F[k]? = some x) (hi : inB x 1 (h - 1) = false) : ¬ ColOk h F L := fun g => by
  have := g.fix.fix k x hx
  simp [inB] at hi; omega
theorem col_done {h : Int} {F : List Int} {L : List Bx} (h1 : 1 ≤ h) (h24 : h ≤ 24) (hb : BoxesP h L) (hf : FixTo h F F.length) (hw : WallsTo F L F.length) : ColOk h F L :=
  ⟨fix_done h1 h24 hf, hb.1, hb.2.1, fun x hx => by
    obtain ⟨j, hj⟩ := List.getElem?_of_mem hx
    exact hw j x (List.getElem?_eq_some_iff.1 hj).1 hj, hb.2.2⟩

theorem prevI_nonneg {z : Int} {F : List Int} {k : Nat} (h : FixTo z F k) (hk : k ≤ F.length) : 0 ≤ prevI F k := by
  rcases k with _ | m
  · simp [prevI]
  · have hm : F[m]? = some F[m] := List.getElem?_eq_getElem (by omega)
    rw [prev_next hm]
    have := (h.fix m _ (by omega) hm).1
    omega
set_option maxHeartbeats 1000000 in
theorem colS_any (w : World) (B : Nat) (x : Cl) (hB : B ≤ w.heap.size) (hV : CV w B x) :
    Calls Tryz.prog 105 #[.agg #[.int .i64 x.z, .slice x.AF x.F.length x.cF, .slice x.AB x.L.length x.cB]] w (Tells (ColOk x.z x.F x.L) w) := by
  obtain ⟨z, AF, F, cF, AB, L, cB⟩ := x
  have HV := Lib.hid hV; clear hV
  dsimp only
  cases hi0 : inB z 1 24
  · have HI0 := Lib.hid hi0
    have hz0 : ¬ (1 ≤ z ∧ z ≤ 24) := by intro g; simp [inB] at hi0; omega
    clear hi0
    go_enter Tryz.func105, Tryz.ntmps105
    go_wp2_with fail
    refine (in_any _ z 1 24).mono ?_
    rintro e w1 ⟨rfl, rfl⟩
    rw [HI0.out]
    go_wp2_with fail
    go_ret
    exact tells_no (fun g => hz0 ⟨g.fix.lo, g.fix.hi⟩) (balloc _ _)
  have HI0 := Lib.hid hi0
  have hz0 : 1 ≤ z ∧ z ≤ 24 := by simp [inB] at hi0; omega
  clear hi0
  obtain ⟨hz1, hz24⟩ := hz0
  go_enter Tryz.func105, Tryz.ntmps105
  go_wp2_with fail
  refine (in_any _ z 1 24).mono ?_
  rintro e w1 ⟨rfl, rfl⟩
  rw [HI0.out]
  go_wp2_with fail
  generalize hW0 : w.alloc (.cells #[.int .i64 z, .slice AF F.length cF, .slice AB L.length cB] 123) = w0 at *
  have b0 : Below w.heap.size w w0 := by rw [← hW0]; exact balloc _ _
  have k0 : Has w0 w.heap.size 123 #[.int .i64 z, .slice AF F.length cF, .slice AB L.length cB] := by rw [← hW0]; exact has_new _ _ _
  clear hW0
  have K0 := Lib.hid k0; clear k0
  have v0 := HV.out.later hB b0
  refine (boxesS_any w0 B AF AB F.length cF cB z L v0.lb (by have := b0.size; omega) v0.b hz1 hz24).mono ?_
  rintro e w1 ⟨b1, rfl, hb1, hw1⟩
  have HB1 := Lib.hid hb1; clear hb1
  clear v0
  have c1 := bthen b0 hw1
  cases b1
  · go_wp2_with fail
    go_ret
    exact tells_no (fun g => by have := HB1.out.2 ⟨g.box, g.top, g.diff⟩; simp at this) c1
  have hbox := HB1.out.1 rfl
  have HBOX := Lib.hid hbox; clear hbox HB1
  have hlf := HV.out.lf
  have hlb := HV.out.lb
  unfold maxLen at hlf hlb
  dsimp only at hlf hlb
  have k1 := has_call K0.out hw1
  have K1 := Lib.hid k1; clear k1
  go_wp2
  go_loopw [3] (fun i wr => ∃ (k : Nat), k ≤ F.length ∧ i = .int .i64 k ∧ FixTo z F k ∧ WallsTo F L k ∧ Below w1.heap.size w1 wr) (fun i _ => F.length - (intOf i).toNat)
  case atStart => exact ⟨0, Nat.zero_le _, rfl, fixTo_zero _ _, fun j x hj => absurd hj (by omega), Below.refl _ _⟩
  case round =>
    obtain ⟨k, hk, rfl, hF, hW, hb⟩ := hrel
    have HF := Lib.hid hF; have HW := Lib.hid hW; clear hF hW
    have cw := bthen c1 hb
    have kw := has_call K1.out hb
    have e0 := has_cell kw 0 rfl
    have e1 := has_cell kw 1 rfl
    have hsc := has_lt kw
    have KW := Lib.hid kw; clear kw
    by_cases hlt : k < F.length
    · obtain ⟨b, off, x, hAF, hbB, hx, hc0⟩ := (HV.out.f.later hB cw).at_ hlt
      dsimp only at hAF
      subst hAF
      have hbw : b < wr.heap.size := by have := cw.size; omega
      have HX := Lib.hid hx; clear hx
      cases hi : inB x 1 (z - 1)
      · have hq : ∀ W, Calls Tryz.prog 33 #[.int .i64 x, .int .i64 1, .int .i64 (z - 1)] W fun e w' => e = .returned (.bool false) ∧ w' = W := fun W => by rw [← hi]; exact in_any W x 1 (z - 1)
        have HQ := Lib.hid hq; clear hq
        have HI := Lib.hid hi; clear hi
        rcases k with _ | m
        · have hc0' : wr.cell? ⟨b, off, none⟩ = some (.int .i64 x) := by simpa using hc0
          clear hc0
          go_wp2_with fail
          go_big_quiet (exact Calls.quiet_of_same (HQ.out _))
          go_wp2_with fail
          go_ret
          exact tells_no (inFix_no HX.out HI.out) (below_drewN cw _)
        · go_wp2_with fail
          go_big_quiet (exact Calls.quiet_of_same (HQ.out _))
          go_wp2_with fail
          go_ret
          exact tells_no (inFix_no HX.out HI.out) (below_drewN cw _)
      have hq : ∀ W, Calls Tryz.prog 33 #[.int .i64 x, .int .i64 1, .int .i64 (z - 1)] W fun e w' => e = .returned (.bool true) ∧ w' = W := fun W => by rw [← hi]; exact in_any W x 1 (z - 1)
      have hxr : 1 ≤ x ∧ x < z := by simp [inB] at hi; omega
      have HQ := Lib.hid hq; clear hq hi
      obtain ⟨hx1, hxz⟩ := hxr
      by_cases hprev : prevI F k < x
      · have HPV := Lib.hid hprev; clear hprev
        have hpv0 := Lib.hid (prevI_nonneg HF.out hk)
        rcases k with _ | m
        · have hc0' : wr.cell? ⟨b, off, none⟩ = some (.int .i64 x) := by simpa using hc0
          have hcx0 := Lib.hid hc0'
          clear hc0
          have hbw0 := Lib.hid hbw
          go_wp2_with fail
          go_big_quiet (exact Calls.quiet_of_same (HQ.out _))
          clear e0 e1 hc0'
          go_wp2
          go_loopw [4, 5] (fun fv i wi => ∃ (j : Nat) (q : Bool), j ≤ L.length ∧ i = .int .i64 j ∧ fv = .bool q ∧ (q = true ↔ ∃ n y, n < j ∧ L[n]? = some y ∧ y.low = x) ∧ Below wr.heap.size wr wi) (fun _ i _ => L.length - (intOf i).toNat)
          case atStart => exact ⟨0, false, Nat.zero_le _, rfl, rfl, by simp, below_drewN (Below.refl _ _) _⟩
          case round =>
            obtain ⟨j, q, hj, rfl, rfl, hq, hbi⟩ := hrel
            have HQI := Lib.hid hq; clear hq
            have hbi2 := bthen cw hbi
            have kwi := has_call KW.out hbi
            have g0 := has_cell kwi 0 rfl
            have g1 := has_cell kwi 1 rfl
            have g2 := has_cell kwi 2 rfl
            have KWI := Lib.hid kwi; clear kwi
            have hcx : wr.cell? ⟨b, off, none⟩ = some (.int .i64 x) := (hbi.cell (p := ⟨b, off, none⟩) hbw0.out).trans hcx0.out
            by_cases hjl : j < L.length
            · obtain ⟨b2, off2, y, hAB, hb2B, hy, d0, d1, d2, d3⟩ := (HV.out.b.later hB hbi2).at_ hjl
              dsimp only at hAB
              subst hAB
              obtain ⟨y0, y1, y2, y3⟩ := y
              dsimp only at d0 d1 d2 d3
              have HY := Lib.hid hy; clear hy
              cases q
              · by_cases he : y0 = x
                · have hnx : (true = true ↔ ∃ n y, n < j + 1 ∧ L[n]? = some y ∧ y.low = x) := ⟨fun _ => ⟨j, _, by omega, HY.out, he⟩, fun _ => rfl⟩
                  have HNX := Lib.hid hnx; clear hnx
                  subst he
                  have de : (y0 == y0) = true := by simp
                  go_wp2
                  go_quiet (fail)
                  go_wp2
                  go_roundw
                  case rel => exact ⟨j + 1, true, by omega, by go_num, rfl, by simpa using HNX.out, below_drewN hbi _⟩
                  case measure => simp [intOf]; omega
                · have hnx : (false = true ↔ ∃ n y, n < j + 1 ∧ L[n]? = some y ∧ y.low = x) := by
                    constructor
                    · intro h; cases h
                    · rintro ⟨n, y, hn, hy, hyx⟩
                      by_cases e : n = j
                      · subst e; rw [HY.out] at hy; injection hy with hy; subst hy; exact absurd hyx he
                      · exact HQI.out.2 ⟨n, y, by omega, hy, hyx⟩
                  have HNX := Lib.hid hnx; clear hnx
                  have de : (y0 == x) = false := by simpa using he
                  clear he
                  go_wp2
                  go_quiet (fail)
                  go_wp2
                  go_roundw
                  case rel => exact ⟨j + 1, false, by omega, by go_num, rfl, by simpa using HNX.out, below_drewN hbi _⟩
                  case measure => simp [intOf]; omega
              · have hnx : (true = true ↔ ∃ n y, n < j + 1 ∧ L[n]? = some y ∧ y.low = x) := ⟨fun _ => by
                  obtain ⟨n, y, hn, hy, hyx⟩ := HQI.out.1 rfl
                  exact ⟨n, y, by omega, hy, hyx⟩, fun _ => rfl⟩
                have HNX := Lib.hid hnx; clear hnx
                go_wp2
                go_quiet (fail)
                go_wp2
                go_roundw
                case rel => exact ⟨j + 1, true, by omega, by go_num, rfl, by simpa using HNX.out, below_drewN hbi _⟩
                case measure => simp [intOf]; omega
            · have hjl' : j = L.length := by omega
              subst hjl'
              cases q
              · go_wp2
                go_ret
                refine tells_no (fun g => ?_) hbi2
                obtain ⟨y, hy, hyx⟩ := g.wall x (List.mem_of_getElem? HX.out)
                obtain ⟨n, hn⟩ := List.getElem?_of_mem hy
                have := HQI.out.2 ⟨n, y, (List.getElem?_eq_some_iff.1 hn).1, hn, hyx⟩
                simp at this
              · go_wp2
                go_roundw
                case rel => exact ⟨0 + 1, by omega, by go_num, fixTo_next HF.out HX.out HPV.out hxz hpv0.out, wallsT_succ HW.out HX.out (by
                  obtain ⟨n, y, hn, hy, hyx⟩ := HQI.out.1 (by trivial)
                  exact ⟨y, List.mem_of_getElem? hy, hyx⟩), hb.trans (hbi.mono hb.size)⟩
                case measure => simp [intOf]; omega
        · obtain ⟨b', off', p, hA', _, hp, hcp⟩ := (HV.out.f.later hB cw).at_ (k := m) (by show m < F.length; omega)
          obtain ⟨rfl, rfl⟩ : b = b' ∧ off = off' := by injection hA' with hA'; injection hA' with e1 e2; exact ⟨e1, e2⟩
          have hpp := HPV.out
          rw [prev_next hp] at hpp
          have HP := Lib.hid hp; clear hp hA'
          have hd : decide (x ≤ p) = false := by simp; omega
          have hd0 : decide (0 < (m : Int) + 1) = true := by rw [decide_eq_true_iff]; omega
          have wk : IntKind.i64.wrap (m : Int) = m := IntWalk.i64_in _ (by omega)
          have hcx0 := Lib.hid hc0
          have hbw0 := Lib.hid hbw
          go_wp2_with fail
          go_big_quiet (exact Calls.quiet_of_same (HQ.out _))
          clear e0 e1 hc0 hcp wk
          go_wp2
          go_loopw [4, 5] (fun fv i wi => ∃ (j : Nat) (q : Bool), j ≤ L.length ∧ i = .int .i64 j ∧ fv = .bool q ∧ (q = true ↔ ∃ n y, n < j ∧ L[n]? = some y ∧ y.low = x) ∧ Below wr.heap.size wr wi) (fun _ i _ => L.length - (intOf i).toNat)
          case atStart => exact ⟨0, false, Nat.zero_le _, rfl, rfl, by simp, below_drewN (Below.refl _ _) _⟩
          case round =>
            obtain ⟨j, q, hj, rfl, rfl, hq, hbi⟩ := hrel
            have HQI := Lib.hid hq; clear hq
            have hbi2 := bthen cw hbi
            have kwi := has_call KW.out hbi
            have g0 := has_cell kwi 0 rfl
            have g1 := has_cell kwi 1 rfl
            have g2 := has_cell kwi 2 rfl
            have KWI := Lib.hid kwi; clear kwi
            have hcx : wr.cell? ⟨b, off + (m + 1), none⟩ = some (.int .i64 x) := (hbi.cell (p := ⟨b, off + (m + 1), none⟩) hbw0.out).trans hcx0.out
            by_cases hjl : j < L.length
            · obtain ⟨b2, off2, y, hAB, hb2B, hy, d0, d1, d2, d3⟩ := (HV.out.b.later hB hbi2).at_ hjl
              dsimp only at hAB
              subst hAB
              obtain ⟨y0, y1, y2, y3⟩ := y
              dsimp only at d0 d1 d2 d3
              have HY := Lib.hid hy; clear hy
              cases q
              · by_cases he : y0 = x
                · have hnx : (true = true ↔ ∃ n y, n < j + 1 ∧ L[n]? = some y ∧ y.low = x) := ⟨fun _ => ⟨j, _, by omega, HY.out, he⟩, fun _ => rfl⟩
                  have HNX := Lib.hid hnx; clear hnx
                  subst he
                  have de : (y0 == y0) = true := by simp
                  go_wp2
                  go_quiet (fail)
                  go_wp2
                  go_roundw
                  case rel => exact ⟨j + 1, true, by omega, by go_num, rfl, by simpa using HNX.out, below_drewN hbi _⟩
                  case measure => simp [intOf]; omega
                · have hnx : (false = true ↔ ∃ n y, n < j + 1 ∧ L[n]? = some y ∧ y.low = x) := by
                    constructor
                    · intro h; cases h
                    · rintro ⟨n, y, hn, hy, hyx⟩
                      by_cases e : n = j
                      · subst e; rw [HY.out] at hy; injection hy with hy; subst hy; exact absurd hyx he
                      · exact HQI.out.2 ⟨n, y, by omega, hy, hyx⟩
                  have HNX := Lib.hid hnx; clear hnx
                  have de : (y0 == x) = false := by simpa using he
                  clear he
                  go_wp2
                  go_quiet (fail)
                  go_wp2
                  go_roundw
                  case rel => exact ⟨j + 1, false, by omega, by go_num, rfl, by simpa using HNX.out, below_drewN hbi _⟩
                  case measure => simp [intOf]; omega
              · have hnx : (true = true ↔ ∃ n y, n < j + 1 ∧ L[n]? = some y ∧ y.low = x) := ⟨fun _ => by
                  obtain ⟨n, y, hn, hy, hyx⟩ := HQI.out.1 rfl
                  exact ⟨n, y, by omega, hy, hyx⟩, fun _ => rfl⟩
                have HNX := Lib.hid hnx; clear hnx
                go_wp2
                go_quiet (fail)
                go_wp2
                go_roundw
                case rel => exact ⟨j + 1, true, by omega, by go_num, rfl, by simpa using HNX.out, below_drewN hbi _⟩
                case measure => simp [intOf]; omega
            · have hjl' : j = L.length := by omega
              subst hjl'
              cases q
              · go_wp2
                go_ret
                refine tells_no (fun g => ?_) hbi2
                obtain ⟨y, hy, hyx⟩ := g.wall x (List.mem_of_getElem? HX.out)
                obtain ⟨n, hn⟩ := List.getElem?_of_mem hy
                have := HQI.out.2 ⟨n, y, (List.getElem?_eq_some_iff.1 hn).1, hn, hyx⟩
                simp at this
              · go_wp2
                go_roundw
                case rel => exact ⟨m + 1 + 1, by omega, by go_num, fixTo_next HF.out HX.out HPV.out hxz hpv0.out, wallsT_succ HW.out HX.out (by
                  obtain ⟨n, y, hn, hy, hyx⟩ := HQI.out.1 (by trivial)
                  exact ⟨y, List.mem_of_getElem? hy, hyx⟩), hb.trans (hbi.mono hb.size)⟩
                case measure => simp [intOf]; omega
      · rcases k with _ | m
        · exact absurd (show prevI F 0 < x by simp only [prevI]; omega) hprev
        · obtain ⟨b', off', p, hA', _, hp, hcp⟩ := (HV.out.f.later hB cw).at_ (k := m) (by show m < F.length; omega)
          obtain ⟨rfl, rfl⟩ : b = b' ∧ off = off' := by injection hA' with hA'; injection hA' with e1 e2; exact ⟨e1, e2⟩
          rw [prev_next hp] at hprev
          have HP := Lib.hid hp; clear hp hA'
          have hd : decide (x ≤ p) = true := by simp; omega
          have hd0 : decide (0 < (m : Int) + 1) = true := by rw [decide_eq_true_iff]; omega
          have wk : IntKind.i64.wrap (m : Int) = m := IntWalk.i64_in _ (by omega)
          go_wp2_with fail
          go_big_quiet (exact Calls.quiet_of_same (HQ.out _))
          go_wp2_with fail
          go_ret
          exact tells_no (fun g => fix_no HX.out (.inl (by rw [prev_next HP.out]; omega)) g.fix) (below_drewN cw _)
    · go_wp2
      go_ret
      have hkl : k = F.length := by omega
      subst hkl
      exact tells_yes (col_done hz1 hz24 HBOX.out HF.out HW.out) cw
end Go.Proofs.YtjpkpfmpjgeeiaaGreat
