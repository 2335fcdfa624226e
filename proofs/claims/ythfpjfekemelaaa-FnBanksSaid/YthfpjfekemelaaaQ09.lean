/- Chapter 2: the program's GapsOf, leastGap, gapAt, FitOf. -/
import Derived.Test.YthfpjfekemelaaaQ06
import Derived.Test.YthfpjfekemelaaaQ08
namespace Go.Proofs.Ythfpjfekemelaaa
open Go.RowKit
set_option linter.unusedVariables false

noncomputable def gapsO (z : Int) (F : List Int) (L : List Bx) : List Gp := by
  classical exact if ColOk z F L then gapsL F 0 L else []
theorem gapsO_ok {z : Int} {F : List Int} {L : List Bx} (h : ColOk z F L) : gapsO z F L = gapsL F 0 L := by unfold gapsO; exact if_pos h
theorem gapsO_no {z : Int} {F : List Int} {L : List Bx} (h : ¬ ColOk z F L) : gapsO z F L = [] := by unfold gapsO; exact if_neg h
theorem gapsO_len (z : Int) (F : List Int) (L : List Bx) : (gapsO z F L).length ≤ 24 := by
  by_cases h : ColOk z F L
  · rw [gapsO_ok h]; have := gapsL_len F 0 L; have := (col_sum h).2.2; omega
  · rw [gapsO_no h]; simp

/-- the answer is a row of gaps of the call's own -/
def GapAns (l : List Gp) (w : World) (e : Ending) (w' : World) : Prop := ∃ A' c', e = .returned (.slice A' l.length c') ∧ OR w' w.heap.size 28 A' (gpV l) ∧ Below w.heap.size w w'

/-- what the best so far is, as the program writes it -/
def bestV (b : Option (Nat × Int)) : Int := match b with | none => -1 | some y => (y.1 : Int)
theorem leastI_best (size : Int) (l : List Gp) : leastI size l = bestV (leastG size l 0 none) := rfl
def leastP (size : Int) (l : List Gp) : Int := if 1 ≤ size then leastI size l else -1
def InL (l : List Gp) (b : Option (Nat × Int)) : Prop := ∀ y, b = some y → ∃ g, l[y.1]? = some g ∧ g.size = y.2
theorem drop_one {α : Type} {l : List α} {k : Nat} {a : α} (h : l[k]? = some a) : l.drop k = a :: l.drop (k + 1) := by
  have hlt : k < l.length := (List.getElem?_eq_some_iff.1 h).1
  rw [List.drop_eq_getElem_cons hlt]
  have : l[k] = a := by rw [List.getElem?_eq_getElem hlt] at h; injection h
  rw [this]

set_option maxRecDepth 100000 in
set_option maxHeartbeats 1000000 in
theorem leastN_any (w : World) (A : Option Addr) (n c B : Nat) (l : List Gp) (size : Int) (hn : n = l.length) (hl : l.length ≤ maxLen) (hB : B ≤ w.heap.size) (hS : gpL w B A l) (hz : ¬ 1 ≤ size) :
    Calls Try.prog 48 #[.slice A n c, .int .i64 size] w fun e w' => e = .returned (.int .i64 (-1)) ∧ Below w.heap.size w w' := by
  subst hn
  unfold maxLen at hl
  have HS := Lib.hid hS; clear hS
  have hz2 : decide (1 ≤ size) = false := by simpa using hz
  go_enter Try.func48, Try.ntmps48
  go_wp2
  go_loopw [5, 10] (fun bv i wr => ∃ k : Nat, k ≤ l.length ∧ i = .int .i64 k ∧ bv = .int .i64 (-1) ∧ Below w.heap.size w wr) (fun _ i _ => l.length - (intOf i).toNat)
  case atStart => exact ⟨0, Nat.zero_le _, rfl, rfl, Below.refl _ _⟩
  case round =>
    obtain ⟨k, hk, rfl, rfl, hb⟩ := hrel
    have hsz := hb.size
    have HBB := Lib.hid hb
    by_cases hlt : k < l.length
    · obtain ⟨b, off, ⟨x0, x1, x2⟩, rfl, hbB, hx, hc0, hc1, hc2⟩ := (HS.out.later hB hb).at_ hlt
      dsimp only at hc0 hc1 hc2
      clear hb hx
      have hbw : b < wr.heap.size := by omega
      go_wp2
      go_quiet (fail)
      go_wp2
      go_roundw
      case rel => exact ⟨k + 1, by omega, by go_num, rfl, below_drewN (HBB.out.alloc hsz _) _⟩
      case measure => simp [intOf]; omega
    · go_wp2
      go_ret
      exact ⟨rfl, HBB.out⟩

set_option maxRecDepth 100000 in
set_option maxHeartbeats 2000000 in
theorem leastY_any (w : World) (A : Option Addr) (n c B : Nat) (l : List Gp) (size : Int) (hn : n = l.length) (hl : l.length ≤ maxLen) (hB : B ≤ w.heap.size) (hS : gpL w B A l) (hz : 1 ≤ size) :
    Calls Try.prog 48 #[.slice A n c, .int .i64 size] w fun e w' => e = .returned (.int .i64 (leastI size l)) ∧ Below w.heap.size w w' := by
  subst hn
  unfold maxLen at hl
  have HS := Lib.hid hS; clear hS
  have hz2 : decide (1 ≤ size) = true := by simpa using hz
  go_enter Try.func48, Try.ntmps48
  go_wp2
  go_loopw [5, 10] (fun bv i wr => ∃ (k : Nat) (st : Option (Nat × Int)), k ≤ l.length ∧ i = .int .i64 k ∧ bv = .int .i64 (bestV st) ∧ leastG size l 0 none = leastG size (l.drop k) k st ∧ InL l st ∧ Below w.heap.size w wr) (fun _ i _ => l.length - (intOf i).toNat)
  case atStart => exact ⟨0, none, Nat.zero_le _, rfl, rfl, by first | trivial | rfl, (fun y hy => by cases hy), Below.refl _ _⟩
  case round =>
    obtain ⟨k, st, hk, rfl, rfl, hG, hI, hb⟩ := hrel
    have hsz := hb.size
    have HBB := Lib.hid hb; have HG := Lib.hid hG; have HI := Lib.hid hI; clear hG hI
    by_cases hlt : k < l.length
    · obtain ⟨b, off, ⟨x0, x1, x2⟩, rfl, hbB, hx, hc0, hc1, hc2⟩ := (HS.out.later hB hb).at_ hlt
      have HXL := Lib.hid (HS.out.later hB hb)
      dsimp only at hc0 hc1 hc2
      have hdr := drop_one hx
      have HX := Lib.hid hx; have HDR := Lib.hid hdr
      clear hb hx hdr
      have hbw : b < wr.heap.size := by omega
      by_cases hs : size ≤ x2
      · have hs2 : decide (size ≤ x2) = true := by simpa using hs
        rcases st with _ | ⟨m, v⟩
        · have hG2 : leastG size l 0 none = leastG size (l.drop (k + 1)) (k + 1) (some (k, x2)) := by
            rw [HG.out, HDR.out]; conv => lhs; unfold leastG
            simp [hs]
          have HG2 := Lib.hid hG2; clear hG2
          dsimp only [bestV]
          have hbl : decide ((-1 : Int) < 0) = true := by decide
          go_wp2
          go_quiet (fail)
          go_wp2
          go_roundw
          case rel => exact ⟨k + 1, some (k, x2), by omega, by go_num, rfl, HG2.out, fun y hy => (by injection hy with hy; subst hy; exact ⟨_, HX.out, rfl⟩), below_drewN (HBB.out.alloc hsz _) _⟩
          case measure => simp [intOf]; omega
        · obtain ⟨⟨g0, g1, g2⟩, hg, hgv⟩ := HI.out _ rfl
          dsimp only at hg hgv
          subst hgv
          have hml : m < l.length := (List.getElem?_eq_some_iff.1 hg).1
          obtain ⟨b2, off2, g', hA, _, hg', hd0, hd1, hd2⟩ := HXL.out.at_ hml
          injection hA with hA; injection hA with hA hA2; subst hA; subst hA2
          obtain rfl : g' = ⟨g0, g1, g2⟩ := by rw [hg] at hg'; injection hg' with hg'; exact hg'.symm
          dsimp only at hd0 hd1 hd2
          have HGG := Lib.hid hg; clear hg hg' hd0 hd1
          dsimp only [bestV]
          have hbl : decide ((m : Int) < 0) = false := by simp
          by_cases hc : x2 < g2
          · have hc2' : decide (x2 < g2) = true := by simpa using hc
            have hG2 : leastG size l 0 none = leastG size (l.drop (k + 1)) (k + 1) (some (k, x2)) := by
              rw [HG.out, HDR.out]; conv => lhs; unfold leastG
              simp [hs, hc]
            have HG2 := Lib.hid hG2; clear hG2
            go_wp2
            go_quiet (fail)
            go_wp2
            go_roundw
            case rel => exact ⟨k + 1, some (k, x2), by omega, by go_num, rfl, HG2.out, fun y hy => (by injection hy with hy; subst hy; exact ⟨_, HX.out, rfl⟩), below_drewN (HBB.out.alloc hsz _) _⟩
            case measure => simp [intOf]; omega
          · have hc2' : decide (x2 < g2) = false := by simpa using hc
            have hG2 : leastG size l 0 none = leastG size (l.drop (k + 1)) (k + 1) (some (m, g2)) := by
              rw [HG.out, HDR.out]; conv => lhs; unfold leastG
              simp [hs, hc]
            have HG2 := Lib.hid hG2; clear hG2
            go_wp2
            go_quiet (fail)
            go_wp2
            go_roundw
            case rel => exact ⟨k + 1, some (m, g2), by omega, by go_num, rfl, HG2.out, HI.out, below_drewN (HBB.out.alloc hsz _) _⟩
            case measure => simp [intOf]; omega
      · have hs2 : decide (size ≤ x2) = false := by simpa using hs
        have hG2 : leastG size l 0 none = leastG size (l.drop (k + 1)) (k + 1) st := by
          rw [HG.out, HDR.out]; conv => lhs; unfold leastG
          simp [hs]
        have HG2 := Lib.hid hG2; clear hG2
        generalize hbv : bestV st = bv at *
        have HBV := Lib.hid hbv; clear hbv
        go_wp2
        go_quiet (fail)
        go_wp2
        go_roundw
        case rel => exact ⟨k + 1, st, by omega, by go_num, by rw [HBV.out], HG2.out, HI.out, below_drewN (HBB.out.alloc hsz _) _⟩
        case measure => simp [intOf]; omega
    · go_wp2
      go_ret
      have hkl : k = l.length := by omega
      subst hkl
      refine ⟨ret_int ?_, HBB.out⟩
      rw [leastI_best, HG.out, List.drop_length]; rfl
theorem leastP_any (w : World) (A : Option Addr) (n c B : Nat) (l : List Gp) (size : Int) (hn : n = l.length) (hl : l.length ≤ maxLen) (hB : B ≤ w.heap.size) (hS : gpL w B A l) :
    Calls Try.prog 48 #[.slice A n c, .int .i64 size] w fun e w' => e = .returned (.int .i64 (leastP size l)) ∧ Below w.heap.size w w' := by
  unfold leastP
  by_cases h : 1 ≤ size
  · rw [if_pos h]; exact leastY_any w A n c B l size hn hl hB hS h
  · rw [if_neg h]; exact leastN_any w A n c B l size hn hl hB hS h

/-- the gap that a parcel of a size gets, and whether there is one -/
def fitV (l : List Gp) (size : Int) : Gp × Bool := match (if 1 ≤ size then leastG size l 0 none else none) with | none => (⟨0, 0, 0⟩, false) | some y => ((l[y.1]?).getD ⟨0, 0, 0⟩, true)
theorem fitV_no {l : List Gp} {size : Int} (h : leastP size l < 0) : fitV l size = (⟨0, 0, 0⟩, false) := by
  unfold leastP at h; unfold fitV
  by_cases hs : 1 ≤ size
  · rw [if_pos hs] at h ⊢; rw [leastI_best] at h
    cases e : leastG size l 0 none with
    | none => rfl
    | some y => rw [e] at h; simp [bestV] at h; omega
  · rw [if_neg hs]
theorem fitV_yes {l : List Gp} {size : Int} (h : ¬ leastP size l < 0) : ∃ (k : Nat) (g : Gp), leastP size l = (k : Int) ∧ l[k]? = some g ∧ fitV l size = (g, true) := by
  unfold leastP at h ⊢; unfold fitV
  by_cases hs : 1 ≤ size
  · rw [if_pos hs] at h ⊢; rw [if_pos hs]; rw [leastI_best] at h ⊢
    have hat := leastG_at size l l 0 none (by simp) (fun y hy => by cases hy)
    cases e : leastG size l 0 none with
    | none => rw [e] at h; simp [bestV] at h
    | some y => obtain ⟨g, hg, _⟩ := hat y e; exact ⟨y.1, g, rfl, hg, by simp [hg]⟩
  · rw [if_neg hs] at h; simp at h

set_option maxRecDepth 100000 in
set_option maxHeartbeats 2000000 in
theorem gapAt_any (w : World) (A : Option Addr) (n c B : Nat) (l : List Gp) (size : Int) (hn : n = l.length) (hl : l.length ≤ maxLen) (hB : B ≤ w.heap.size) (hS : gpL w B A l) :
    Calls Try.prog 41 #[.slice A n c, .int .i64 size] w fun e w' => e = .returned (.tuple #[.agg #[.int .i64 (fitV l size).1.col, .int .i64 (fitV l size).1.low, .int .i64 (fitV l size).1.size], .bool (fitV l size).2]) ∧ Below w.heap.size w w' := by
  subst hn
  have HS := Lib.hid hS; clear hS
  have HL := Lib.hid hl
  unfold maxLen at hl
  go_enter Try.func41, Try.ntmps41
  go_wp2_with fail
  generalize hW0 : (w.alloc (.cells #[.int .i64 0, .int .i64 0, .int .i64 0] 28)) = w0
  have b0 : Below w.heap.size w w0 := by rw [← hW0]; exact balloc _ _
  have k0 : Has w0 w.heap.size 28 #[.int .i64 0, .int .i64 0, .int .i64 0] := by rw [← hW0]; exact has_new _ _ _
  clear hW0
  have K0 := Lib.hid k0; clear k0
  refine (leastP_any w0 A l.length c B l size rfl HL.out (by have := b0.size; omega) (HS.out.later hB b0)).mono ?_
  rintro e w1 ⟨rfl, hb1⟩
  have c1 := bthen b0 hb1
  have k1 := has_call K0.out hb1
  have y0 := has_cell k1 0 rfl
  have y1 := has_cell k1 1 rfl
  have y2 := has_cell k1 2 rfl
  have f0 := has_free k1 0
  have f1 := has_free k1 1
  have f2 := has_free k1 2
  have hz1 := c1.size
  have hk1 := has_lt k1
  by_cases hneg : leastP size l < 0
  · have hv := fitV_no hneg
    have HFV := Lib.hid hv; clear hv
    have X1 := Lib.hid (set3 (u := .int .i64 0) (v := .int .i64 0) (x := .int .i64 0) k1)
    have FIN := Lib.hid (show Below w.heap.size w (((w1.setCell ⟨w.heap.size, 0, none⟩ (.int .i64 0)).setCell ⟨w.heap.size, 1, none⟩ (.int .i64 0)).setCell ⟨w.heap.size, 2, none⟩ (.int .i64 0)) from ((c1.setCell (Nat.le_refl _) _).setCell (Nat.le_refl _) _).setCell (Nat.le_refl _) _)
    clear k1
    generalize leastP size l = lp at *
    go_wp2_with fail
    have g0 := has_cell X1.out 0 rfl
    have g1 := has_cell X1.out 1 rfl
    have g2 := has_cell X1.out 2 rfl
    exact bodyPost_ret (v := .tuple #[.agg #[.int .i64 0, .int .i64 0, .int .i64 0], .bool false]) (by simp [results, Try.results41, go_sem, g0, g1, g2]) rfl ⟨by rw [HFV.out], FIN.out⟩
  · obtain ⟨k, ⟨x0, x1, x2⟩, hkq, hx, hv⟩ := fitV_yes hneg
    have HFV := Lib.hid hv; clear hv
    have hkl : k < l.length := (List.getElem?_eq_some_iff.1 hx).1
    obtain ⟨b, off, g', rfl, hbB, hx', hc0, hc1, hc2⟩ := (HS.out.later hB c1).at_ hkl
    obtain rfl : g' = ⟨x0, x1, x2⟩ := by rw [hx] at hx'; injection hx' with hx'; exact hx'.symm
    dsimp only at hc0 hc1 hc2
    clear hx hx'
    have hbw : b < w.heap.size := by omega
    have X1 := Lib.hid (set3 (u := .int .i64 x0) (v := .int .i64 x1) (x := .int .i64 x2) k1)
    have FIN := Lib.hid (show Below w.heap.size w (((w1.setCell ⟨w.heap.size, 0, none⟩ (.int .i64 x0)).setCell ⟨w.heap.size, 1, none⟩ (.int .i64 x1)).setCell ⟨w.heap.size, 2, none⟩ (.int .i64 x2)) from ((c1.setCell (Nat.le_refl _) _).setCell (Nat.le_refl _) _).setCell (Nat.le_refl _) _)
    clear k1
    rw [hkq]
    clear hkq hneg
    go_wp2_with fail
    have g0 := has_cell X1.out 0 rfl
    have g1 := has_cell X1.out 1 rfl
    have g2 := has_cell X1.out 2 rfl
    exact bodyPost_ret (v := .tuple #[.agg #[.int .i64 x0, .int .i64 x1, .int .i64 x2], .bool true]) (by simp [results, Try.results41, go_sem, g0, g1, g2]) rfl ⟨by rw [HFV.out], FIN.out⟩
end Go.Proofs.Ythfpjfekemelaaa
namespace Go.Proofs.Ythfpjfekemelaaa
open Go.RowKit
set_option linter.unusedVariables false
/-- the answer is a gap and whether there is one -/
def FitAns (v : Gp × Bool) (w : World) (e : Ending) (w' : World) : Prop := e = .returned (.tuple #[.agg #[.int .i64 v.1.col, .int .i64 v.1.low, .int .i64 v.1.size], .bool v.2]) ∧ Below w.heap.size w w'

set_option maxRecDepth 100000 in
theorem openS_any (w : World) (x0 x1 x2 : Int) (x3 : Bool) :
    Calls Try.prog 70 #[.agg #[.int .i64 x0, .int .i64 x1, .int .i64 x2, .bool x3]] w fun e w' => e = .returned (.bool (opn ⟨x0, x1, x2, x3⟩)) ∧ Below w.heap.size w w' := by
  by_cases e : x2 = 0
  · have e1 : decide (x2 = 0) = true := by simpa using e
    have e2 : (x2 == 0) = true := by simpa using e
    cases x3
    · go_enter Try.func70, Try.ntmps70
      go_wp2
      go_ret
      exact ⟨ret_bool (by simp [opn, e]), balloc _ _⟩
    · go_enter Try.func70, Try.ntmps70
      go_wp2
      go_ret
      exact ⟨ret_bool (by simp [opn, e]), balloc _ _⟩
  · have e1 : decide (x2 = 0) = false := by simpa using e
    have e2 : (x2 == 0) = false := by simpa using e
    go_enter Try.func70, Try.ntmps70
    go_wp2
    go_ret
    exact ⟨ret_bool (by simp [opn, e]), balloc _ _⟩

set_option maxRecDepth 100000 in
set_option maxHeartbeats 1000000 in
theorem hasG_any (w : World) (B : Nat) (A : Option Addr) (c n : Nat) (l : List Int) (x : Int) (hn : n = l.length) (hl : l.length ≤ maxLen) (hS : IL w B A l) :
    Calls Try.prog 71 #[.slice A n c, .int .i64 x] w fun e w' => e = .returned (.bool (l.contains x)) ∧ w' = w := by
  subst hn
  unfold maxLen at hl
  have HS := Lib.hid hS; clear hS
  go_enter Try.func71, Try.ntmps71
  go_wp2
  go_loopw [5] (fun i wr => ∃ k : Nat, k ≤ l.length ∧ i = .int .i64 k ∧ (∀ j y, j < k → l[j]? = some y → y ≠ x) ∧ wr = w) (fun i _ => l.length - (intOf i).toNat)
  case atStart => exact ⟨0, Nat.zero_le _, rfl, (fun j y hj => absurd hj (by omega)), rfl⟩
  case round =>
    obtain ⟨k, hk, rfl, hno, rfl⟩ := hrel
    have HNO := Lib.hid hno; clear hno
    by_cases hlt : k < l.length
    · obtain ⟨b, off, y, rfl, hbB, hx, hc0⟩ := HS.out.at_ hlt
      have Hx := Lib.hid hx; clear hx
      cases hq : y == x
      · have hyx : y ≠ x := by simpa using hq
        have HQ := Lib.hid hyx; clear hyx
        go_wp2
        go_roundw
        case rel => exact ⟨k + 1, by omega, by go_num, (fun j z hj hz => by
          by_cases e : j = k
          · subst e; rw [Hx.out] at hz; injection hz with hz; subst hz; exact HQ.out
          · exact HNO.out j z (by omega) hz), by first | trivial | rfl⟩
        case measure => simp [intOf]; omega
      · obtain rfl : y = x := by simpa using hq
        go_wp2
        go_ret
        exact ⟨ret_bool (by simp [List.mem_of_getElem? Hx.out]), rfl⟩
    · go_wp2
      go_ret
      have hkl : k = l.length := by omega
      subst hkl
      refine ⟨ret_bool ?_, rfl⟩
      cases hv : l.contains x
      · rfl
      · exfalso
        have hm : x ∈ l := by simpa using hv
        obtain ⟨j, hj, hjx⟩ := List.getElem_of_mem hm
        exact HNO.out j _ hj (List.getElem?_eq_getElem hj) hjx

set_option maxRecDepth 100000 in
set_option maxHeartbeats 2000000 in
theorem leastS_any (w : World) (A : Option Addr) (n c B : Nat) (l : List Gp) (size : Int) (hn : n = l.length) (hl : l.length ≤ maxLen) (hB : B ≤ w.heap.size) (hS : gpL w B A l) :
    Calls Try.prog 60 #[.slice A n c, .int .i64 size] w fun e w' => e = .returned (.int .i64 (leastI size l)) ∧ Below w.heap.size w w' := by
  subst hn
  unfold maxLen at hl
  have HS := Lib.hid hS; clear hS
  go_enter Try.func60, Try.ntmps60
  go_wp2
  go_loopw [5, 6] (fun bv i wr => ∃ (k : Nat) (st : Option (Nat × Int)), k ≤ l.length ∧ i = .int .i64 k ∧ bv = .int .i64 (bestV st) ∧ leastG size l 0 none = leastG size (l.drop k) k st ∧ InL l st ∧ Below w.heap.size w wr) (fun _ i _ => l.length - (intOf i).toNat)
  case atStart => exact ⟨0, none, Nat.zero_le _, rfl, rfl, by first | trivial | rfl, (fun y hy => by cases hy), Below.refl _ _⟩
  case round =>
    obtain ⟨k, st, hk, rfl, rfl, hG, hI, hb⟩ := hrel
    have hsz := hb.size
    have HBB := Lib.hid hb; have HG := Lib.hid hG; have HI := Lib.hid hI; clear hG hI
    by_cases hlt : k < l.length
    · obtain ⟨b, off, ⟨x0, x1, x2⟩, rfl, hbB, hx, hc0, hc1, hc2⟩ := (HS.out.later hB hb).at_ hlt
      have HXL := Lib.hid (HS.out.later hB hb)
      dsimp only at hc0 hc1 hc2
      have hdr := drop_one hx
      have HX := Lib.hid hx; have HDR := Lib.hid hdr
      clear hb hx hdr
      have hbw : b < wr.heap.size := by omega
      by_cases hs : size ≤ x2
      · have hs2 : decide (size ≤ x2) = true := by simpa using hs
        rcases st with _ | ⟨m, v⟩
        · have hG2 : leastG size l 0 none = leastG size (l.drop (k + 1)) (k + 1) (some (k, x2)) := by
            rw [HG.out, HDR.out]; conv => lhs; unfold leastG
            simp [hs]
          have HG2 := Lib.hid hG2; clear hG2
          dsimp only [bestV]
          have hbl : decide ((-1 : Int) < 0) = true := by decide
          go_wp2
          go_quiet (fail)
          go_wp2
          go_roundw
          case rel => exact ⟨k + 1, some (k, x2), by omega, by go_num, rfl, HG2.out, fun y hy => (by injection hy with hy; subst hy; exact ⟨_, HX.out, rfl⟩), below_drewN HBB.out _⟩
          case measure => simp [intOf]; omega
        · obtain ⟨⟨g0, g1, g2⟩, hg, hgv⟩ := HI.out _ rfl
          dsimp only at hg hgv
          subst hgv
          have hml : m < l.length := (List.getElem?_eq_some_iff.1 hg).1
          obtain ⟨b2, off2, g', hA, _, hg', hd0, hd1, hd2⟩ := HXL.out.at_ hml
          injection hA with hA; injection hA with hA hA2; subst hA; subst hA2
          obtain rfl : g' = ⟨g0, g1, g2⟩ := by rw [hg] at hg'; injection hg' with hg'; exact hg'.symm
          dsimp only at hd0 hd1 hd2
          have HGG := Lib.hid hg; clear hg hg' hd0 hd1
          dsimp only [bestV]
          have hbl : decide ((m : Int) < 0) = false := by simp
          by_cases hc : x2 < g2
          · have hc2' : decide (x2 < g2) = true := by simpa using hc
            have hG2 : leastG size l 0 none = leastG size (l.drop (k + 1)) (k + 1) (some (k, x2)) := by
              rw [HG.out, HDR.out]; conv => lhs; unfold leastG
              simp [hs, hc]
            have HG2 := Lib.hid hG2; clear hG2
            go_wp2
            go_quiet (fail)
            go_wp2
            go_roundw
            case rel => exact ⟨k + 1, some (k, x2), by omega, by go_num, rfl, HG2.out, fun y hy => (by injection hy with hy; subst hy; exact ⟨_, HX.out, rfl⟩), below_drewN HBB.out _⟩
            case measure => simp [intOf]; omega
          · have hc2' : decide (x2 < g2) = false := by simpa using hc
            have hG2 : leastG size l 0 none = leastG size (l.drop (k + 1)) (k + 1) (some (m, g2)) := by
              rw [HG.out, HDR.out]; conv => lhs; unfold leastG
              simp [hs, hc]
            have HG2 := Lib.hid hG2; clear hG2
            go_wp2
            go_quiet (fail)
            go_wp2
            go_roundw
            case rel => exact ⟨k + 1, some (m, g2), by omega, by go_num, rfl, HG2.out, HI.out, below_drewN HBB.out _⟩
            case measure => simp [intOf]; omega
      · have hs2 : decide (size ≤ x2) = false := by simpa using hs
        have hG2 : leastG size l 0 none = leastG size (l.drop (k + 1)) (k + 1) st := by
          rw [HG.out, HDR.out]; conv => lhs; unfold leastG
          simp [hs]
        have HG2 := Lib.hid hG2; clear hG2
        generalize hbv : bestV st = bv at *
        have HBV := Lib.hid hbv; clear hbv
        go_wp2
        go_quiet (fail)
        go_wp2
        go_roundw
        case rel => exact ⟨k + 1, st, by omega, by go_num, by rw [HBV.out], HG2.out, HI.out, below_drewN HBB.out _⟩
        case measure => simp [intOf]; omega
    · go_wp2
      go_ret
      have hkl : k = l.length := by omega
      subst hkl
      refine ⟨ret_int ?_, HBB.out⟩
      rw [leastI_best, HG.out, List.drop_length]; rfl
end Go.Proofs.Ythfpjfekemelaaa
