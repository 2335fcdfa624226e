/- Chapter 2: FitOf of the program; GapsOf, l02Least, FitOf of the model. -/
import Derived.Test.YtpoiebebnpelhaaGapC
namespace Go.Proofs.Ytpoiebebnpelhaa
open Go.RowKit
set_option linter.unusedVariables false
/-- the answer is a gap and whether there is one -/
def FitAns (v : Gp × Bool) (w : World) (e : Ending) (w' : World) : Prop := e = .returned (.tuple #[.agg #[.int .i64 v.1.col, .int .i64 v.1.low, .int .i64 v.1.size], .bool v.2]) ∧ Below w.heap.size w w'

set_option maxRecDepth 100000 in
theorem openS_any (w : World) (x0 x1 x2 : Int) (x3 : Bool) :
    Calls Try.prog 55 #[.agg #[.int .i64 x0, .int .i64 x1, .int .i64 x2, .bool x3]] w fun e w' => e = .returned (.bool (opn ⟨x0, x1, x2, x3⟩)) ∧ Below w.heap.size w w' := by
  by_cases e : x2 = 0
  · have e1 : decide (x2 = 0) = true := by simpa using e
    have e2 : (x2 == 0) = true := by simpa using e
    cases x3
    · go_enter Try.func55, Try.ntmps55
      go_wp2
      go_ret
      exact ⟨ret_bool (by simp [opn, e]), balloc _ _⟩
    · go_enter Try.func55, Try.ntmps55
      go_wp2
      go_ret
      exact ⟨ret_bool (by simp [opn, e]), balloc _ _⟩
  · have e1 : decide (x2 = 0) = false := by simpa using e
    have e2 : (x2 == 0) = false := by simpa using e
    go_enter Try.func55, Try.ntmps55
    go_wp2
    go_ret
    exact ⟨ret_bool (by simp [opn, e]), balloc _ _⟩

set_option maxRecDepth 100000 in
set_option maxHeartbeats 1000000 in
theorem hasG_any (w : World) (B : Nat) (A : Option Addr) (c n : Nat) (l : List Int) (x : Int) (hn : n = l.length) (hl : l.length ≤ maxLen) (hS : IL w B A l) :
    Calls Try.prog 56 #[.slice A n c, .int .i64 x] w fun e w' => e = .returned (.bool (l.contains x)) ∧ w' = w := by
  subst hn
  unfold maxLen at hl
  have HS := Lib.hid hS; clear hS
  go_enter Try.func56, Try.ntmps56
  go_wp2
  go_loopw [5] (fun i wr => ∃ k : Nat, k ≤ l.length ∧ i = .int .i64 k ∧ (∀ j y, j < k → l[j]? = some y → y ≠ x) ∧ wr = w) (fun i _ => l.length - (intOf i).toNat)
  case atStart => exact ⟨0, Nat.zero_le _, rfl, (fun j y hj => absurd hj (by omega)), rfl⟩
  case round =>
    obtain ⟨k, hk, rfl, hno, rfl⟩ := hrel
    have HNO := Lib.hid hno; clear hno
    by_cases hlt : k < l.length
    · obtain ⟨b, off, y, rfl, hbB, hx, hc0⟩ := HS.out.at_ hlt
      have Hx := Lib.hid hx; clear hx
      cases hq : y == x
      · have hyx : y ≠ x := by simpa using hq
        have HQ := Lib.hid hyx; clear hyx
        go_wp2
        go_roundw
        case rel => exact ⟨k + 1, by omega, by go_num, (fun j z hj hz => by
          by_cases e : j = k
          · subst e; rw [Hx.out] at hz; injection hz with hz; subst hz; exact HQ.out
          · exact HNO.out j z (by omega) hz), by first | trivial | rfl⟩
        case measure => simp [intOf]; omega
      · obtain rfl : y = x := by simpa using hq
        go_wp2
        go_ret
        exact ⟨ret_bool (by simp [List.mem_of_getElem? Hx.out]), rfl⟩
    · go_wp2
      go_ret
      have hkl : k = l.length := by omega
      subst hkl
      refine ⟨ret_bool ?_, rfl⟩
      cases hv : l.contains x
      · rfl
      · exfalso
        have hm : x ∈ l := by simpa using hv
        obtain ⟨j, hj, hjx⟩ := List.getElem_of_mem hm
        exact HNO.out j _ hj (List.getElem?_eq_getElem hj) hjx

set_option maxRecDepth 100000 in
set_option maxHeartbeats 2000000 in
theorem leastS_any (w : World) (A : Option Addr) (n c B : Nat) (l : List Gp) (size : Int) (hn : n = l.length) (hl : l.length ≤ maxLen) (hB : B ≤ w.heap.size) (hS : gpL w B A l) :
    Calls Try.prog 36 #[.slice A n c, .int .i64 size] w fun e w' => e = .returned (.int .i64 (leastI size l)) ∧ Below w.heap.size w w' := by
  subst hn
  unfold maxLen at hl
  have HS := Lib.hid hS; clear hS
  go_enter Try.func36, Try.ntmps36
  go_wp2
  go_loopw [5, 6] (fun bv i wr => ∃ (k : Nat) (st : Option (Nat × Int)), k ≤ l.length ∧ i = .int .i64 k ∧ bv = .int .i64 (bestV st) ∧ leastG size l 0 none = leastG size (l.drop k) k st ∧ InL l st ∧ Below w.heap.size w wr) (fun _ i _ => l.length - (intOf i).toNat)
  case atStart => exact ⟨0, none, Nat.zero_le _, rfl, rfl, by first | trivial | rfl, (fun y hy => by cases hy), Below.refl _ _⟩
  case round =>
    obtain ⟨k, st, hk, rfl, rfl, hG, hI, hb⟩ := hrel
    have hsz := hb.size
    have HBB := Lib.hid hb; have HG := Lib.hid hG; have HI := Lib.hid hI; clear hG hI
    by_cases hlt : k < l.length
    · obtain ⟨b, off, ⟨x0, x1, x2⟩, rfl, hbB, hx, hc0, hc1, hc2⟩ := (HS.out.later hB hb).at_ hlt
      have HXL := Lib.hid (HS.out.later hB hb)
      dsimp only at hc0 hc1 hc2
      have hdr := drop_one hx
      have HX := Lib.hid hx; have HDR := Lib.hid hdr
      clear hb hx hdr
      have hbw : b < wr.heap.size := by omega
      by_cases hs : size ≤ x2
      · have hs2 : decide (size ≤ x2) = true := by simpa using hs
        rcases st with _ | ⟨m, v⟩
        · have hG2 : leastG size l 0 none = leastG size (l.drop (k + 1)) (k + 1) (some (k, x2)) := by
            rw [HG.out, HDR.out]; conv => lhs; unfold leastG
            simp [hs]
          have HG2 := Lib.hid hG2; clear hG2
          dsimp only [bestV]
          have hbl : decide ((-1 : Int) < 0) = true := by decide
          go_wp2
          go_quiet (fail)
          go_wp2
          go_roundw
          case rel => exact ⟨k + 1, some (k, x2), by omega, by go_num, rfl, HG2.out, fun y hy => (by injection hy with hy; subst hy; exact ⟨_, HX.out, rfl⟩), below_drewN HBB.out _⟩
          case measure => simp [intOf]; omega
        · obtain ⟨⟨g0, g1, g2⟩, hg, hgv⟩ := HI.out _ rfl
          dsimp only at hg hgv
          subst hgv
          have hml : m < l.length := (List.getElem?_eq_some_iff.1 hg).1
          obtain ⟨b2, off2, g', hA, _, hg', hd0, hd1, hd2⟩ := HXL.out.at_ hml
          injection hA with hA; injection hA with hA hA2; subst hA; subst hA2
          obtain rfl : g' = ⟨g0, g1, g2⟩ := by rw [hg] at hg'; injection hg' with hg'; exact hg'.symm
          dsimp only at hd0 hd1 hd2
          have HGG := Lib.hid hg; clear hg hg' hd0 hd1
          dsimp only [bestV]
          have hbl : decide ((m : Int) < 0) = false := by simp
          by_cases hc : x2 < g2
          · have hc2' : decide (x2 < g2) = true := by simpa using hc
            have hG2 : leastG size l 0 none = leastG size (l.drop (k + 1)) (k + 1) (some (k, x2)) := by
              rw [HG.out, HDR.out]; conv => lhs; unfold leastG
              simp [hs, hc]
            have HG2 := Lib.hid hG2; clear hG2
            go_wp2
            go_quiet (fail)
            go_wp2
            go_roundw
            case rel => exact ⟨k + 1, some (k, x2), by omega, by go_num, rfl, HG2.out, fun y hy => (by injection hy with hy; subst hy; exact ⟨_, HX.out, rfl⟩), below_drewN HBB.out _⟩
            case measure => simp [intOf]; omega
          · have hc2' : decide (x2 < g2) = false := by simpa using hc
            have hG2 : leastG size l 0 none = leastG size (l.drop (k + 1)) (k + 1) (some (m, g2)) := by
              rw [HG.out, HDR.out]; conv => lhs; unfold leastG
              simp [hs, hc]
            have HG2 := Lib.hid hG2; clear hG2
            go_wp2
            go_quiet (fail)
            go_wp2
            go_roundw
            case rel => exact ⟨k + 1, some (m, g2), by omega, by go_num, rfl, HG2.out, HI.out, below_drewN HBB.out _⟩
            case measure => simp [intOf]; omega
      · have hs2 : decide (size ≤ x2) = false := by simpa using hs
        have hG2 : leastG size l 0 none = leastG size (l.drop (k + 1)) (k + 1) st := by
          rw [HG.out, HDR.out]; conv => lhs; unfold leastG
          simp [hs]
        have HG2 := Lib.hid hG2; clear hG2
        generalize hbv : bestV st = bv at *
        have HBV := Lib.hid hbv; clear hbv
        go_wp2
        go_quiet (fail)
        go_wp2
        go_roundw
        case rel => exact ⟨k + 1, st, by omega, by go_num, by rw [HBV.out], HG2.out, HI.out, below_drewN HBB.out _⟩
        case measure => simp [intOf]; omega
    · go_wp2
      go_ret
      have hkl : k = l.length := by omega
      subst hkl
      refine ⟨ret_int ?_, HBB.out⟩
      rw [leastI_best, HG.out, List.drop_length]; rfl
end Go.Proofs.Ytpoiebebnpelhaa
