/- Chapter 2: FitOf of the program; GapsOf, l02Least, FitOf of the model. -/
import Derived.Test.YthmoonjceokijaaGapC
namespace Go.Proofs.Ythmoonjceokijaa
open Go.RowKit
set_option linter.unusedVariables false
/-- the answer is a gap and whether there is one -/
def FitAns (v : Gp × Bool) (w : World) (e : Ending) (w' : World) : Prop := e = .returned (.tuple #[.agg #[.int .i64 v.1.col, .int .i64 v.1.low, .int .i64 v.1.size], .bool v.2]) ∧ Below w.heap.size w w'

set_option maxRecDepth 100000 in
set_option maxHeartbeats 1000000 in
theorem fitI_any (w : World) (B : Nat) (x : Cl) (size : Int) (hB : B ≤ w.heap.size) (hV : CV w B x) :
    Calls Try.prog 11 #[.agg #[.int .i64 x.z, .slice x.AF x.F.length x.cF, .slice x.AB x.L.length x.cB], .int .i64 size] w (FitAns (fitV (gapsO x.z x.F x.L) size) w) := by
  have HV := Lib.hid hV; clear hV
  obtain ⟨⟨⟨a, b, c⟩, f⟩, hv⟩ : ∃ v, fitV (gapsO x.z x.F x.L) size = v := ⟨_, rfl⟩
  have HFV := Lib.hid hv; clear hv
  rw [HFV.out]
  go_enter Try.func11, Try.ntmps11
  go_wp2_with fail
  generalize hW0 : ((w.alloc (.cells #[.int .i64 x.z, .slice x.AF x.F.length x.cF, .slice x.AB x.L.length x.cB] 27)).alloc (.cells #[.int .i64 0, .int .i64 0, .int .i64 0] 36)) = w0
  have b0 : Below w.heap.size w w0 := by rw [← hW0]; exact bthen (balloc _ _) (balloc _ _)
  have k0 : Has w0 (w.heap.size + 1) 36 #[.int .i64 0, .int .i64 0, .int .i64 0] := by
    rw [← hW0]; have := has_new (w.alloc (.cells #[.int .i64 x.z, .slice x.AF x.F.length x.cF, .slice x.AB x.L.length x.cB] 27)) 36 #[.int .i64 0, .int .i64 0, .int .i64 0]; simpa using this
  clear hW0
  have K0 := Lib.hid k0; clear k0
  have hz0 := b0.size
  refine (gapsI_any w0 B x (by omega) (HV.out.later hB b0)).mono ?_
  rintro e w1 ⟨A', c', rfl, hor, hb1⟩
  have c1 := bthen b0 hb1
  have hz1 := hb1.size
  have HOR := Lib.hid hor.gp; clear hor
  have hgl := gapsO_len x.z x.F x.L
  have k1 := has_call K0.out hb1
  have K1 := Lib.hid k1; clear k1
  go_wp2_with fail
  refine (gapAt_any w1 A' _ c' w1.heap.size (gapsO x.z x.F x.L) size rfl (by unfold maxLen; omega) (Nat.le_refl _) HOR.out).mono ?_
  rintro e w2 ⟨rfl, hb2⟩
  rw [HFV.out]
  have c2 := bthen c1 hb2
  have k2 := has_call K1.out hb2
  have y0 := has_cell k2 0 rfl
  have y1 := has_cell k2 1 rfl
  have y2 := has_cell k2 2 rfl
  have f0 := has_free k2 0
  have f1 := has_free k2 1
  have f2 := has_free k2 2
  have hz2 := c2.size
  have hk2 := has_lt k2
  have X1 := Lib.hid (set3 (u := .int .i64 a) (v := .int .i64 b) (x := .int .i64 c) k2)
  have FIN := Lib.hid (show Below w.heap.size w (((w2.setCell ⟨w.heap.size + 1, 0, none⟩ (.int .i64 a)).setCell ⟨w.heap.size + 1, 1, none⟩ (.int .i64 b)).setCell ⟨w.heap.size + 1, 2, none⟩ (.int .i64 c)) from ((c2.setCell (Nat.le_succ _) _).setCell (Nat.le_succ _) _).setCell (Nat.le_succ _) _)
  clear k2
  go_wp2_with fail
  have g0 := has_cell X1.out 0 rfl
  have g1 := has_cell X1.out 1 rfl
  have g2 := has_cell X1.out 2 rfl
  exact bodyPost_ret (v := .tuple #[.agg #[.int .i64 a, .int .i64 b, .int .i64 c], .bool f]) (by simp [results, Try.results11, go_sem, g0, g1, g2]) rfl ⟨rfl, FIN.out⟩

set_option maxRecDepth 100000 in
theorem openS_any (w : World) (x0 x1 x2 : Int) (x3 : Bool) :
    Calls Try.prog 40 #[.agg #[.int .i64 x0, .int .i64 x1, .int .i64 x2, .bool x3]] w fun e w' => e = .returned (.bool (opn ⟨x0, x1, x2, x3⟩)) ∧ Below w.heap.size w w' := by
  by_cases e : x2 = 0
  · have e1 : decide (x2 = 0) = true := by simpa using e
    have e2 : (x2 == 0) = true := by simpa using e
    cases x3
    · go_enter Try.func40, Try.ntmps40
      go_wp2
      go_ret
      exact ⟨ret_bool (by simp [opn, e]), balloc _ _⟩
    · go_enter Try.func40, Try.ntmps40
      go_wp2
      go_ret
      exact ⟨ret_bool (by simp [opn, e]), balloc _ _⟩
  · have e1 : decide (x2 = 0) = false := by simpa using e
    have e2 : (x2 == 0) = false := by simpa using e
    go_enter Try.func40, Try.ntmps40
    go_wp2
    go_ret
    exact ⟨ret_bool (by simp [opn, e]), balloc _ _⟩

set_option maxRecDepth 100000 in
set_option maxHeartbeats 1000000 in
theorem hasG_any (w : World) (B : Nat) (A : Option Addr) (c n : Nat) (l : List Int) (x : Int) (hn : n = l.length) (hl : l.length ≤ maxLen) (hS : IL w B A l) :
    Calls Try.prog 41 #[.slice A n c, .int .i64 x] w fun e w' => e = .returned (.bool (l.contains x)) ∧ w' = w := by
  subst hn
  unfold maxLen at hl
  have HS := Lib.hid hS; clear hS
  go_enter Try.func41, Try.ntmps41
  go_wp2
  go_loopw [5] (fun i wr => ∃ k : Nat, k ≤ l.length ∧ i = .int .i64 k ∧ (∀ j y, j < k → l[j]? = some y → y ≠ x) ∧ wr = w) (fun i _ => l.length - (intOf i).toNat)
  case atStart => exact ⟨0, Nat.zero_le _, rfl, (fun j y hj => absurd hj (by omega)), rfl⟩
  case round =>
    obtain ⟨k, hk, rfl, hno, rfl⟩ := hrel
    have HNO := Lib.hid hno; clear hno
    by_cases hlt : k < l.length
    · obtain ⟨b, off, y, rfl, hbB, hx, hc0⟩ := HS.out.at_ hlt
      have Hx := Lib.hid hx; clear hx
      cases hq : y == x
      · have hyx : y ≠ x := by simpa using hq
        have HQ := Lib.hid hyx; clear hyx
        go_wp2
        go_roundw
        case rel => exact ⟨k + 1, by omega, by go_num, (fun j z hj hz => by
          by_cases e : j = k
          · subst e; rw [Hx.out] at hz; injection hz with hz; subst hz; exact HQ.out
          · exact HNO.out j z (by omega) hz), by first | trivial | rfl⟩
        case measure => simp [intOf]; omega
      · obtain rfl : y = x := by simpa using hq
        go_wp2
        go_ret
        exact ⟨ret_bool (by simp [List.mem_of_getElem? Hx.out]), rfl⟩
    · go_wp2
      go_ret
      have hkl : k = l.length := by omega
      subst hkl
      refine ⟨ret_bool ?_, rfl⟩
      cases hv : l.contains x
      · rfl
      · exfalso
        have hm : x ∈ l := by simpa using hv
        obtain ⟨j, hj, hjx⟩ := List.getElem_of_mem hm
        exact HNO.out j _ hj (List.getElem?_eq_getElem hj) hjx

set_option maxRecDepth 100000 in
set_option maxHeartbeats 2000000 in
theorem leastS_any (w : World) (A : Option Addr) (n c B : Nat) (l : List Gp) (size : Int) (hn : n = l.length) (hl : l.length ≤ maxLen) (hB : B ≤ w.heap.size) (hS : gpL w B A l) :
    Calls Try.prog 55 #[.slice A n c, .int .i64 size] w fun e w' => e = .returned (.int .i64 (leastI size l)) ∧ Below w.heap.size w w' := by
  subst hn
  unfold maxLen at hl
  have HS := Lib.hid hS; clear hS
  go_enter Try.func55, Try.ntmps55
  go_wp2
  go_loopw [5, 6] (fun bv i wr => ∃ (k : Nat) (st : Option (Nat × Int)), k ≤ l.length ∧ i = .int .i64 k ∧ bv = .int .i64 (bestV st) ∧ leastG size l 0 none = leastG size (l.drop k) k st ∧ InL l st ∧ Below w.heap.size w wr) (fun _ i _ => l.length - (intOf i).toNat)
  case atStart => exact ⟨0, none, Nat.zero_le _, rfl, rfl, by first | trivial | rfl, (fun y hy => by cases hy), Below.refl _ _⟩
  case round =>
    obtain ⟨k, st, hk, rfl, rfl, hG, hI, hb⟩ := hrel
    have hsz := hb.size
    have HBB := Lib.hid hb; have HG := Lib.hid hG; have HI := Lib.hid hI; clear hG hI
    by_cases hlt : k < l.length
    · obtain ⟨b, off, ⟨x0, x1, x2⟩, rfl, hbB, hx, hc0, hc1, hc2⟩ := (HS.out.later hB hb).at_ hlt
      have HXL := Lib.hid (HS.out.later hB hb)
      dsimp only at hc0 hc1 hc2
      have hdr := drop_one hx
      have HX := Lib.hid hx; have HDR := Lib.hid hdr
      clear hb hx hdr
      have hbw : b < wr.heap.size := by omega
      by_cases hs : size ≤ x2
      · have hs2 : decide (size ≤ x2) = true := by simpa using hs
        rcases st with _ | ⟨m, v⟩
        · have hG2 : leastG size l 0 none = leastG size (l.drop (k + 1)) (k + 1) (some (k, x2)) := by
            rw [HG.out, HDR.out]; conv => lhs; unfold leastG
            simp [hs]
          have HG2 := Lib.hid hG2; clear hG2
          dsimp only [bestV]
          have hbl : decide ((-1 : Int) < 0) = true := by decide
          go_wp2
          go_quiet (fail)
          go_wp2
          go_roundw
          case rel => exact ⟨k + 1, some (k, x2), by omega, by go_num, rfl, HG2.out, fun y hy => (by injection hy with hy; subst hy; exact ⟨_, HX.out, rfl⟩), below_drewN HBB.out _⟩
          case measure => simp [intOf]; omega
        · obtain ⟨⟨g0, g1, g2⟩, hg, hgv⟩ := HI.out _ rfl
          dsimp only at hg hgv
          subst hgv
          have hml : m < l.length := (List.getElem?_eq_some_iff.1 hg).1
          obtain ⟨b2, off2, g', hA, _, hg', hd0, hd1, hd2⟩ := HXL.out.at_ hml
          injection hA with hA; injection hA with hA hA2; subst hA; subst hA2
          obtain rfl : g' = ⟨g0, g1, g2⟩ := by rw [hg] at hg'; injection hg' with hg'; exact hg'.symm
          dsimp only at hd0 hd1 hd2
          have HGG := Lib.hid hg; clear hg hg' hd0 hd1
          dsimp only [bestV]
          have hbl : decide ((m : Int) < 0) = false := by simp
          by_cases hc : x2 < g2
          · have hc2' : decide (x2 < g2) = true := by simpa using hc
            have hG2 : leastG size l 0 none = leastG size (l.drop (k + 1)) (k + 1) (some (k, x2)) := by
              rw [HG.out, HDR.out]; conv => lhs; unfold leastG
              simp [hs, hc]
            have HG2 := Lib.hid hG2; clear hG2
            go_wp2
            go_quiet (fail)
            go_wp2
            go_roundw
            case rel => exact ⟨k + 1, some (k, x2), by omega, by go_num, rfl, HG2.out, fun y hy => (by injection hy with hy; subst hy; exact ⟨_, HX.out, rfl⟩), below_drewN HBB.out _⟩
            case measure => simp [intOf]; omega
          · have hc2' : decide (x2 < g2) = false := by simpa using hc
            have hG2 : leastG size l 0 none = leastG size (l.drop (k + 1)) (k + 1) (some (m, g2)) := by
              rw [HG.out, HDR.out]; conv => lhs; unfold leastG
              simp [hs, hc]
            have HG2 := Lib.hid hG2; clear hG2
            go_wp2
            go_quiet (fail)
            go_wp2
            go_roundw
            case rel => exact ⟨k + 1, some (m, g2), by omega, by go_num, rfl, HG2.out, HI.out, below_drewN HBB.out _⟩
            case measure => simp [intOf]; omega
      · have hs2 : decide (size ≤ x2) = false := by simpa using hs
        have hG2 : leastG size l 0 none = leastG size (l.drop (k + 1)) (k + 1) st := by
          rw [HG.out, HDR.out]; conv => lhs; unfold leastG
          simp [hs]
        have HG2 := Lib.hid hG2; clear hG2
        generalize hbv : bestV st = bv at *
        have HBV := Lib.hid hbv; clear hbv
        go_wp2
        go_quiet (fail)
        go_wp2
        go_roundw
        case rel => exact ⟨k + 1, st, by omega, by go_num, by rw [HBV.out], HG2.out, HI.out, below_drewN HBB.out _⟩
        case measure => simp [intOf]; omega
    · go_wp2
      go_ret
      have hkl : k = l.length := by omega
      subst hkl
      refine ⟨ret_int ?_, HBB.out⟩
      rw [leastI_best, HG.out, List.drop_length]; rfl
end Go.Proofs.Ythmoonjceokijaa
